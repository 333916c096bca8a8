/-
  FnExactOpenPermutations answers true at every input that can be read, and writes into nothing that was there before the call: the program's function answers as the model's does, writes into no argument, and its answer owns its memory.
  Conditions: none but the row's own.
-/
import Derived.Test.YteeoepbbocdchaaRows
import Derived.ProofKit
import Derived.OpenShut
import Derived.ShutString
import Derived.ChangeOld
import Derived.Below
import Derived.Test.YteeoepbbocdchaaSlice
import Derived.Test.YteeoepbbocdchaaListsLaw
import Derived.Test.YteeoepbbocdchaaWdOpens
namespace Go.Proofs.Yteeoepbbocdchaa
open Go.RowKit
set_option linter.unusedSimpArgs false
set_option linter.unusedVariables false

set_option maxHeartbeats 4000000 in
theorem core_OpenPermutations (x0 : Int) (r : List (List Int)) (ok : Bool) (w : World) (hs : ∀ (w : World), Calls Try.prog 19 #[.int .i64 x0] w (GivesLL w r ok)) (hi : ∀ (w : World), Calls Try.prog 20 #[.int .i64 x0] w (GivesLL w r ok)) (hr : tot r ≤ 1000000 ∧ ∀ i, i < r.length → (r.getD i []).length ≤ 1000000) :
    Calls Try.prog 4 #[.int .i64 x0] w (Good w) := by
  have HS := Lib.hid hs; clear hs
  have HI := Lib.hid hi; clear hi
  have HR := Lib.hid hr; clear hr
  go_enter Try.func4, Try.ntmps4
  go_wp2_with fail
  refine (HS.out _  ).mono ?_
  rintro e w1 ⟨vs, vsr, rfl, ovs, hb⟩
  have C : Below w.heap.size w w1 := hb
  have Z1 := Lib.hid (Below.size hb); clear hb
  go_wp2_with fail
  refine (HI.out _  ).mono ?_
  rintro e w2 ⟨vg, vgr, rfl, ovg, hb⟩
  replace C := Below.step C hb
  replace ovs := OwnLL.below ovs hb
  have Z2 := Lib.hid (Below.size hb); clear hb
  go_wp2_with fail
  refine (eqIntSS_ok _ _ _ _ _ _ _ _ r _ ovg ovs).mono ?_
  rintro e w3 ⟨rfl, hb⟩
  replace C := Below.step C hb
  replace ovs := OwnLL.below ovs hb
  replace ovg := OwnLL.below ovg hb
  have Z3 := Lib.hid (Below.size hb); clear hb
  go_wp2_with fail
  refine (markIntSS_any w1.heap.size w2.heap.size vg _ r 1 w3 ovg (by omega) (by have := HR.out.1; omega) (fun i hi => Nat.le_trans (HR.out.2 i hi) (by omega))).mono ?_
  rintro e w4 ⟨rfl, ho, hg⟩
  replace C := Within.below C hg (by have := Z1.out; have := Z2.out; have := Z3.out; omega) (by have := Z1.out; have := Z2.out; have := Z3.out; omega)
  replace ovs := OwnLL.within ovs hg (by have := Z1.out; have := Z2.out; have := Z3.out; omega)
  have Z4 := Lib.hid hg.size; clear hg
  replace ovg := ho; clear ho
  go_wp2_with fail
  refine (heldIntSS_ok _ _ _ _ r 1 _ ovg (by omega) (by have := HR.out.1; omega) (fun i hi => Nat.le_trans (HR.out.2 i hi) (by omega))).mono ?_
  rintro e w5 ⟨rfl, hb⟩
  replace C := Below.step C hb
  replace ovs := OwnLL.below ovs hb
  replace ovg := OwnLL.below ovg hb
  have Z5 := Lib.hid (Below.size hb); clear hb
  go_wp2_with fail
  refine (HI.out _  ).mono ?_
  rintro e w6 ⟨vh, vhr, rfl, ovh, hb⟩
  replace C := Below.step C hb
  replace ovs := OwnLL.below ovs hb
  replace ovg := OwnLL.below ovg hb
  have Z6 := Lib.hid (Below.size hb); clear hb
  go_wp2_with fail
  refine (eqIntSS_ok _ _ _ _ _ _ _ _ r _ ovh ovs).mono ?_
  rintro e w7 ⟨rfl, hb⟩
  replace C := Below.step C hb
  replace ovs := OwnLL.below ovs hb
  replace ovg := OwnLL.below ovg hb
  replace ovh := OwnLL.below ovh hb
  have Z7 := Lib.hid (Below.size hb); clear hb
  go_wp2_with fail
  refine (heldIntSS_ok _ _ _ _ r 1 _ ovg (by omega) (by have := HR.out.1; omega) (fun i hi => Nat.le_trans (HR.out.2 i hi) (by omega))).mono ?_
  rintro e w8 ⟨rfl, hb⟩
  replace C := Below.step C hb
  replace ovs := OwnLL.below ovs hb
  replace ovg := OwnLL.below ovg hb
  replace ovh := OwnLL.below ovh hb
  have Z8 := Lib.hid (Below.size hb); clear hb
  go_wp2
  go_ret
  exact ⟨rfl, C⟩

set_option maxHeartbeats 1000000 in
theorem walk_OpenPermutations (a0 : Int) (w : World) (w0 : (Lit.int .i64 a0).wf = true) :
    Calls Try.prog 4 #[.int .i64 a0] w (Good w) := by
  exact core_OpenPermutations a0 (res_OpenPermutations a0) (ok_OpenPermutations a0) w   (fun w => spec_OpenPermutations a0 w   ) (fun w => impl_OpenPermutations a0 w   ) (len_OpenPermutations a0)
end Go.Proofs.Yteeoepbbocdchaa

namespace Go.Proofs.Yteeoepbbocdchaa.fnExactOpenPermutations
open Go.ChangeShapes Go.WideShapes Go.ChangeAt Go.RowKit
open Go.ChangeMaps (open_string shut_string)
set_option linter.unusedVariables false
set_option linter.unusedSimpArgs false

theorem own : ownKnob Try.prog.godebug = none := by kernel_rfl
theorem laidOut : laidOutB Try.prog = true := by kernel_rfl

set_option maxRecDepth 100000 in
theorem lifted (os : Os) (started : os.Started) (H : Type) (enc : TypeId × Value → H) :
    ReturnsInHanded {} Try.checked os 4 .any (Rows.fnExactOpenPermutationsSpec.pre6 enc Try.prog Try.f4 Rows.fnExactOpenPermutationsRow.domain false) (Rows.fnExactOpenPermutationsSpec.post enc Try.prog Try.f4 false true false false) := by
  refine returnsInHanded_of_change (C := Try.checked) own started (by kernel_rfl) Try.func4
    (ChangeSpec.witness6 (enc := enc) (C := Try.checked) false ⟨#[], #[.int .i64 0], []⟩ 8 (by kernel_rfl) (by kernel_rfl) (by kernel_rfl) (by kernel_rfl)) ?_
  intro W base args ds gs before hval0 hW hcnd _
  have hval : ∀ (j : Nat) t v, Try.f4.params[j]? = some t → args[j]? = some v → Value.okWide Try.prog W .any base t v := hval0
  have hW' := hW
  obtain ⟨p, q, hA0, hV, rfl, hfz, hnd⟩ := hW
  have hA : DataW.TrodAll enc Try.prog W 0 (fun _ => true) true Try.f4.params.toList args.toList ds p := hA0
  rw [Try.params4] at hA hval
  obtain ⟨v0, vs0, d0, ds0, p0, q0, hargs, rfl, rfl, h0, r0⟩ := trodAll_cons hA
  obtain ⟨rfl, rfl, rfl⟩ := trodAll_nil r0
  obtain rfl : args = #[v0] := by cases args; simp_all
  obtain ⟨rfl, rfl⟩ := trodVars_none hV
  obtain ⟨a0, rfl, rfl, rfl, w0⟩ := open_int Try.underlying3 (hval 0 3 v0 rfl rfl) h0
  clear hA0 hval0
  refine (walk_OpenPermutations a0 W w0).mono fun e W' ⟨he, bel⟩ => ?_
  subst he
  exact ⟨_, rfl, _, _, _, [], _, [], hW', trodAll_mk1 (shut_bool Try.underlying4 _), (trodAll_cons_mk (shut_int Try.underlying3 w0) trodAll_mk0), rfl, bel.frame _, fun h => by cases h⟩

theorem over : Rows.fnExactOpenPermutationsRow.holds Try.pinned (OpenSpec.ofChange Rows.fnExactOpenPermutationsSpec) :=
  OpenClaim.holds_of_wide 4 Try.f4 rfl rfl rfl rfl rfl rfl rfl ⟨rfl, rfl, rfl, rfl, rfl⟩ rfl rfl rfl rfl rfl (by as_aux_lemma => kernel_rfl) Try.func4 (by as_aux_lemma => kernel_rfl)
    (of_decide_eq_true (by as_aux_lemma => kernel_rfl)) (by unfold Func.isWrapper; first | (rw [if_pos (by decide +kernel)]; kernel_rfl) | (rw [if_neg (by decide +kernel)]; exact ⟨rfl, rfl⟩))
    (fun os started H enc _ => lifted os started H enc)

theorem proved : Rows.FnExactOpenPermutationsSaid := over
#print axioms proved
end Go.Proofs.Yteeoepbbocdchaa.fnExactOpenPermutations
