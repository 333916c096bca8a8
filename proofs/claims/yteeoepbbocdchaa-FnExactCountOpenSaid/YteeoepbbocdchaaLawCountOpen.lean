/-
  FnExactCountOpen answers true at every input that can be read, and writes into nothing that was there before the call: the program's function answers as the model's does, writes into no argument, and its answer owns its memory.
  Conditions: none but the row's own.
-/
import Derived.Test.YteeoepbbocdchaaRows
import Derived.ProofKit
import Derived.OpenShut
import Derived.ShutString
import Derived.ChangeOld
import Derived.Below
import Derived.Test.YteeoepbbocdchaaSlice
import Derived.Test.YteeoepbbocdchaaWdOpens
namespace Go.Proofs.Yteeoepbbocdchaa
open Go.RowKit
set_option linter.unusedSimpArgs false
set_option linter.unusedVariables false

set_option maxHeartbeats 4000000 in
theorem core_CountOpen (x0 : Int) (r : Int) (ok : Bool) (w : World) (hs : ∀ (w : World), Calls Try.prog 21 #[.int .i64 x0] w (GivesN w r ok)) (hi : ∀ (w : World), Calls Try.prog 22 #[.int .i64 x0] w (GivesN w r ok)) :
    Calls Try.prog 5 #[.int .i64 x0] w (Good w) := by
  have HS := Lib.hid hs; clear hs
  have HI := Lib.hid hi; clear hi
  go_enter Try.func5, Try.ntmps5
  go_wp2_with fail
  refine (HS.out _  ).mono ?_
  rintro e w1 ⟨rfl, hb⟩
  have C : Below w.heap.size w w1 := hb
  have Z1 := Lib.hid (Below.size hb); clear hb
  go_wp2_with fail
  refine (HI.out _  ).mono ?_
  rintro e w2 ⟨rfl, hb⟩
  replace C := Below.step C hb
  have Z2 := Lib.hid (Below.size hb); clear hb
  go_wp2
  go_ret
  exact ⟨rfl, C⟩

set_option maxHeartbeats 1000000 in
theorem walk_CountOpen (a0 : Int) (w : World) (w0 : (Lit.int .i64 a0).wf = true) :
    Calls Try.prog 5 #[.int .i64 a0] w (Good w) := by
  exact core_CountOpen a0 (res_CountOpen a0) (ok_CountOpen a0) w   (fun w => spec_CountOpen a0 w   ) (fun w => impl_CountOpen a0 w   )
end Go.Proofs.Yteeoepbbocdchaa

namespace Go.Proofs.Yteeoepbbocdchaa.fnExactCountOpen
open Go.ChangeShapes Go.WideShapes Go.ChangeAt Go.RowKit
open Go.ChangeMaps (open_string shut_string)
set_option linter.unusedVariables false
set_option linter.unusedSimpArgs false

theorem own : ownKnob Try.prog.godebug = none := by kernel_rfl
theorem laidOut : laidOutB Try.prog = true := by kernel_rfl

set_option maxRecDepth 100000 in
theorem lifted (os : Os) (started : os.Started) (H : Type) (enc : TypeId × Value → H) :
    ReturnsInHanded {} Try.checked os 5 .any (Rows.fnExactCountOpenSpec.pre6 enc Try.prog Try.f5 Rows.fnExactCountOpenRow.domain false) (Rows.fnExactCountOpenSpec.post enc Try.prog Try.f5 false true false false) := by
  refine returnsInHanded_of_change (C := Try.checked) own started (by kernel_rfl) Try.func5
    (ChangeSpec.witness6 (enc := enc) (C := Try.checked) false ⟨#[], #[.int .i64 0], []⟩ 8 (by kernel_rfl) (by kernel_rfl) (by kernel_rfl) (by kernel_rfl)) ?_
  intro W base args ds gs before hval0 hW hcnd _
  have hval : ∀ (j : Nat) t v, Try.f5.params[j]? = some t → args[j]? = some v → Value.okWide Try.prog W .any base t v := hval0
  have hW' := hW
  obtain ⟨p, q, hA0, hV, rfl, hfz, hnd⟩ := hW
  have hA : DataW.TrodAll enc Try.prog W 0 (fun _ => true) true Try.f5.params.toList args.toList ds p := hA0
  rw [Try.params5] at hA hval
  obtain ⟨v0, vs0, d0, ds0, p0, q0, hargs, rfl, rfl, h0, r0⟩ := trodAll_cons hA
  obtain ⟨rfl, rfl, rfl⟩ := trodAll_nil r0
  obtain rfl : args = #[v0] := by cases args; simp_all
  obtain ⟨rfl, rfl⟩ := trodVars_none hV
  obtain ⟨a0, rfl, rfl, rfl, w0⟩ := open_int Try.underlying3 (hval 0 3 v0 rfl rfl) h0
  clear hA0 hval0
  refine (walk_CountOpen a0 W w0).mono fun e W' ⟨he, bel⟩ => ?_
  subst he
  exact ⟨_, rfl, _, _, _, [], _, [], hW', trodAll_mk1 (shut_bool Try.underlying4 _), (trodAll_cons_mk (shut_int Try.underlying3 w0) trodAll_mk0), rfl, bel.frame _, fun h => by cases h⟩

theorem over : Rows.fnExactCountOpenRow.holds Try.pinned (OpenSpec.ofChange Rows.fnExactCountOpenSpec) :=
  OpenClaim.holds_of_wide 5 Try.f5 rfl rfl rfl rfl rfl rfl rfl ⟨rfl, rfl, rfl, rfl, rfl⟩ rfl rfl rfl rfl rfl (by as_aux_lemma => kernel_rfl) Try.func5 (by as_aux_lemma => kernel_rfl)
    (of_decide_eq_true (by as_aux_lemma => kernel_rfl)) (by unfold Func.isWrapper; first | (rw [if_pos (by decide +kernel)]; kernel_rfl) | (rw [if_neg (by decide +kernel)]; exact ⟨rfl, rfl⟩))
    (fun os started H enc _ => lifted os started H enc)

theorem proved : Rows.FnExactCountOpenSaid := over
#print axioms proved
end Go.Proofs.Yteeoepbbocdchaa.fnExactCountOpen
