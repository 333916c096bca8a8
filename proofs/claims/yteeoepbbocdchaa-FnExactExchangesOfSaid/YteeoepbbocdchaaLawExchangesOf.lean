/-
  FnExactExchangesOf answers true at every input that can be read, and writes into nothing that was there before the call: the program's function answers as the model's does, writes into no argument, and its answer owns its memory.
  Conditions: none but the row's own.
-/
import Derived.Test.YteeoepbbocdchaaRows
import Derived.ProofKit
import Derived.OpenShut
import Derived.ShutString
import Derived.ChangeOld
import Derived.Below
import Derived.Test.YteeoepbbocdchaaSlice
import Derived.Test.YteeoepbbocdchaaListsLaw
import Derived.Test.YteeoepbbocdchaaExAll
namespace Go.Proofs.Yteeoepbbocdchaa
open Go.RowKit
set_option linter.unusedSimpArgs false
set_option linter.unusedVariables false

set_option maxHeartbeats 4000000 in
theorem core_ExchangesOf (a0 : Option Addr) (n0 c0 : Nat) (l0 : List Int) (r : List (List Int)) (ok : Bool) (w : World) (h0 : Rd w (.slice a0 n0 c0) l0) (m0 : n0 ≤ 1048576) (hs : ∀ (w : World) (u0 : Value),Rd w u0 l0 → Calls Try.prog 11 #[u0] w (GivesLL w r ok)) (hi : ∀ (w : World) (u0 : Value),Rd w u0 l0 → Calls Try.prog 13 #[u0] w (GivesLL w r ok)) (hr : tot r ≤ 1000000 ∧ ∀ i, i < r.length → (r.getD i []).length ≤ 1000000) :
    Calls Try.prog 3 #[.slice a0 n0 c0] w (Good w) := by
  have HS := Lib.hid hs; clear hs
  have HI := Lib.hid hi; clear hi
  have q0 : l0.length = n0 := by obtain ⟨_, _, hv, _⟩ := h0; simp at hv; exact hv.2.1.symm
  have Q0 := Lib.hid q0; have M0 : Hid (l0.length ≤ 1048576) := by rw [q0]; exact m0
  clear q0
  have HR := Lib.hid hr; clear hr
  go_enter Try.func3, Try.ntmps3
  go_wp2_with fail
  refine (toIntS_ok _ l0 _ h0 M0.out).mono ?_
  rintro e w1 ⟨u0, rfl, ou0, hb⟩
  have C : Below w.heap.size w w1 := hb
  have Z1 := Lib.hid (Below.size hb); clear hb
  have Iu0 := Lib.hid (Own.inn ou0)
  go_wp2_with fail
  refine (HS.out _ u0 (Own.rd ou0)).mono ?_
  rintro e w2 ⟨vs, vsr, rfl, ovs, hb⟩
  replace C := Below.step C hb
  replace ou0 := Own.below ou0 hb
  have Z2 := Lib.hid (Below.size hb); clear hb
  go_wp2_with fail
  refine (toIntS_ok _ l0 _ (Rd.below h0 C) M0.out).mono ?_
  rintro e w3 ⟨x0s, rfl, ox0s, hb⟩
  replace C := Below.step C hb
  replace ou0 := Own.below ou0 hb
  replace ovs := OwnLL.below ovs hb
  have Z3 := Lib.hid (Below.size hb); clear hb
  have Ix0s := Lib.hid (Own.inn ox0s)
  go_wp2_with fail
  refine (HI.out _ x0s (Own.rd ox0s)).mono ?_
  rintro e w4 ⟨vg, vgr, rfl, ovg, hb⟩
  replace C := Below.step C hb
  replace ou0 := Own.below ou0 hb
  replace ovs := OwnLL.below ovs hb
  replace ox0s := Own.below ox0s hb
  have Z4 := Lib.hid (Below.size hb); clear hb
  go_wp2_with fail
  refine (eqIntSS_ok _ _ _ _ _ _ _ _ r _ ovg ovs).mono ?_
  rintro e w5 ⟨rfl, hb⟩
  replace C := Below.step C hb
  replace ou0 := Own.below ou0 hb
  replace ovs := OwnLL.below ovs hb
  replace ox0s := Own.below ox0s hb
  replace ovg := OwnLL.below ovg hb
  have Z5 := Lib.hid (Below.size hb); clear hb
  go_wp2_with fail
  refine (toIntS_ok _ l0 _ (Rd.below h0 C) M0.out).mono ?_
  rintro e w6 ⟨y0, rfl, oy0, hb⟩
  replace C := Below.step C hb
  replace ou0 := Own.below ou0 hb
  replace ovs := OwnLL.below ovs hb
  replace ox0s := Own.below ox0s hb
  replace ovg := OwnLL.below ovg hb
  have Z6 := Lib.hid (Below.size hb); clear hb
  have Iy0 := Lib.hid (Own.inn oy0)
  go_wp2_with fail
  refine (eqIntS_ok _ _ l0 _ (Own.rd ox0s) (Own.rd oy0)).mono ?_
  rintro e w7 ⟨rfl, hb⟩
  replace C := Below.step C hb
  replace ou0 := Own.below ou0 hb
  replace ovs := OwnLL.below ovs hb
  replace ox0s := Own.below ox0s hb
  replace ovg := OwnLL.below ovg hb
  replace oy0 := Own.below oy0 hb
  have Z7 := Lib.hid (Below.size hb); clear hb
  go_wp2_with fail
  refine (markIntS_any w2.heap.size x0s l0 1 w7 ox0s (by omega) (by omega) (by have := M0.out; omega)).mono ?_
  rintro e w8 ⟨rfl, ho, hg⟩
  replace C := Below.mark C hg Ix0s.out (by have := Z1.out; have := Z2.out; have := Z3.out; have := Z4.out; have := Z5.out; have := Z6.out; have := Z7.out; omega)
  replace ou0 := Own.grown ou0 hg (In.apart Iu0.out Ix0s.out (by have := Z1.out; have := Z2.out; have := Z3.out; have := Z4.out; have := Z5.out; have := Z6.out; have := Z7.out; omega))
  replace ovs := OwnLL.grown ovs hg (fun k hk => by have := Ix0s.out k hk; have := Z1.out; have := Z2.out; have := Z3.out; have := Z4.out; have := Z5.out; have := Z6.out; have := Z7.out; omega)
  replace ovg := OwnLL.grown ovg hg (fun k hk => by have := Ix0s.out k hk; have := Z1.out; have := Z2.out; have := Z3.out; have := Z4.out; have := Z5.out; have := Z6.out; have := Z7.out; omega)
  replace oy0 := Own.grown oy0 hg (In.apart Iy0.out Ix0s.out (by have := Z1.out; have := Z2.out; have := Z3.out; have := Z4.out; have := Z5.out; have := Z6.out; have := Z7.out; omega))
  have Z8 := Lib.hid hg.size; clear hg
  replace ox0s := ho; clear ho
  go_wp2_with fail
  refine (eqIntSS_ok _ _ _ _ _ _ _ _ r _ ovg ovs).mono ?_
  rintro e w9 ⟨rfl, hb⟩
  replace C := Below.step C hb
  replace ou0 := Own.below ou0 hb
  replace ovs := OwnLL.below ovs hb
  replace ox0s := Own.below ox0s hb
  replace ovg := OwnLL.below ovg hb
  replace oy0 := Own.below oy0 hb
  have Z9 := Lib.hid (Below.size hb); clear hb
  go_wp2_with fail
  refine (markIntSS_any w3.heap.size w4.heap.size vg _ r 1 w9 ovg (by omega) (by have := HR.out.1; omega) (fun i hi => Nat.le_trans (HR.out.2 i hi) (by omega))).mono ?_
  rintro e w10 ⟨rfl, ho, hg⟩
  replace C := Within.below C hg (by have := Z1.out; have := Z2.out; have := Z3.out; have := Z4.out; have := Z5.out; have := Z6.out; have := Z7.out; have := Z8.out; have := Z9.out; omega) (by have := Z1.out; have := Z2.out; have := Z3.out; have := Z4.out; have := Z5.out; have := Z6.out; have := Z7.out; have := Z8.out; have := Z9.out; omega)
  replace ou0 := Own.within ou0 hg Iu0.out (by have := Z1.out; have := Z2.out; have := Z3.out; have := Z4.out; have := Z5.out; have := Z6.out; have := Z7.out; have := Z8.out; have := Z9.out; omega)
  replace ovs := OwnLL.within ovs hg (by have := Z1.out; have := Z2.out; have := Z3.out; have := Z4.out; have := Z5.out; have := Z6.out; have := Z7.out; have := Z8.out; have := Z9.out; omega)
  replace ox0s := Own.within ox0s hg Ix0s.out (by have := Z1.out; have := Z2.out; have := Z3.out; have := Z4.out; have := Z5.out; have := Z6.out; have := Z7.out; have := Z8.out; have := Z9.out; omega)
  replace oy0 := Own.within oy0 hg Iy0.out (by have := Z1.out; have := Z2.out; have := Z3.out; have := Z4.out; have := Z5.out; have := Z6.out; have := Z7.out; have := Z8.out; have := Z9.out; omega)
  have Z10 := Lib.hid hg.size; clear hg
  replace ovg := ho; clear ho
  go_wp2_with fail
  refine (heldIntSS_ok _ _ _ _ r 1 _ ovg (by omega) (by have := HR.out.1; omega) (fun i hi => Nat.le_trans (HR.out.2 i hi) (by omega))).mono ?_
  rintro e w11 ⟨rfl, hb⟩
  replace C := Below.step C hb
  replace ou0 := Own.below ou0 hb
  replace ovs := OwnLL.below ovs hb
  replace ox0s := Own.below ox0s hb
  replace ovg := OwnLL.below ovg hb
  replace oy0 := Own.below oy0 hb
  have Z11 := Lib.hid (Below.size hb); clear hb
  go_wp2_with fail
  refine (toIntS_ok _ l0 _ (Rd.below h0 C) M0.out).mono ?_
  rintro e w12 ⟨z0, rfl, oz0, hb⟩
  replace C := Below.step C hb
  replace ou0 := Own.below ou0 hb
  replace ovs := OwnLL.below ovs hb
  replace ox0s := Own.below ox0s hb
  replace ovg := OwnLL.below ovg hb
  replace oy0 := Own.below oy0 hb
  have Z12 := Lib.hid (Below.size hb); clear hb
  have Iz0 := Lib.hid (Own.inn oz0)
  go_wp2_with fail
  refine (HI.out _ z0 (Own.rd oz0)).mono ?_
  rintro e w13 ⟨vh, vhr, rfl, ovh, hb⟩
  replace C := Below.step C hb
  replace ou0 := Own.below ou0 hb
  replace ovs := OwnLL.below ovs hb
  replace ox0s := Own.below ox0s hb
  replace ovg := OwnLL.below ovg hb
  replace oy0 := Own.below oy0 hb
  replace oz0 := Own.below oz0 hb
  have Z13 := Lib.hid (Below.size hb); clear hb
  go_wp2_with fail
  refine (eqIntSS_ok _ _ _ _ _ _ _ _ r _ ovh ovs).mono ?_
  rintro e w14 ⟨rfl, hb⟩
  replace C := Below.step C hb
  replace ou0 := Own.below ou0 hb
  replace ovs := OwnLL.below ovs hb
  replace ox0s := Own.below ox0s hb
  replace ovg := OwnLL.below ovg hb
  replace oy0 := Own.below oy0 hb
  replace oz0 := Own.below oz0 hb
  replace ovh := OwnLL.below ovh hb
  have Z14 := Lib.hid (Below.size hb); clear hb
  go_wp2_with fail
  refine (heldIntSS_ok _ _ _ _ r 1 _ ovg (by omega) (by have := HR.out.1; omega) (fun i hi => Nat.le_trans (HR.out.2 i hi) (by omega))).mono ?_
  rintro e w15 ⟨rfl, hb⟩
  replace C := Below.step C hb
  replace ou0 := Own.below ou0 hb
  replace ovs := OwnLL.below ovs hb
  replace ox0s := Own.below ox0s hb
  replace ovg := OwnLL.below ovg hb
  replace oy0 := Own.below oy0 hb
  replace oz0 := Own.below oz0 hb
  replace ovh := OwnLL.below ovh hb
  have Z15 := Lib.hid (Below.size hb); clear hb
  go_wp2
  go_ret
  exact ⟨rfl, C⟩

set_option maxHeartbeats 1000000 in
theorem walk_ExchangesOf (a0 : Option Addr) (len0 cap0 : Nat) (z0 : List Int) (w : World) (w0 : RowIn w a0 len0 cap0 z0) :
    Calls Try.prog 3 #[.slice a0 len0 cap0] w (Good w) := by
  by_cases b0 : len0 ≤ 1048576
  · exact core_ExchangesOf a0 len0 cap0 (z0.take len0) (res_ExchangesOf (z0.take len0)) (ok_ExchangesOf (z0.take len0)) w (RowIn.rd w0) b0  (fun w u0 k0 => spec_ExchangesOf (z0.take len0) w u0 k0 (by rw [RowIn.len w0]; exact b0) ) (fun w u0 k0 => impl_ExchangesOf (z0.take len0) w u0 k0 (by rw [RowIn.len w0]; exact b0) ) (len_ExchangesOf (z0.take len0))
  · have g0 : cap0 ≤ 9223372036854775807 ∧ len0 ≤ cap0 := by rcases w0 with ⟨_, q1, q2, _⟩ | ⟨_, _, q1, q2, _⟩ <;> first | (unfold maxLen at q2; omega) | omega
    clear w0
    go_enter Try.func3, Try.ntmps3
    go_wp2
    go_ret
    exact ⟨rfl, Below.refl _ _⟩
end Go.Proofs.Yteeoepbbocdchaa

namespace Go.Proofs.Yteeoepbbocdchaa.fnExactExchangesOf
open Go.ChangeShapes Go.WideShapes Go.ChangeAt Go.RowKit
open Go.ChangeMaps (open_string shut_string)
set_option linter.unusedVariables false
set_option linter.unusedSimpArgs false

theorem own : ownKnob Try.prog.godebug = none := by kernel_rfl
theorem laidOut : laidOutB Try.prog = true := by kernel_rfl

set_option maxRecDepth 100000 in
theorem lifted (os : Os) (started : os.Started) (H : Type) (enc : TypeId × Value → H) :
    ReturnsInHanded {} Try.checked os 3 .any (Rows.fnExactExchangesOfSpec.pre6 enc Try.prog Try.f3 Rows.fnExactExchangesOfRow.domain false) (Rows.fnExactExchangesOfSpec.post enc Try.prog Try.f3 false true false false) := by
  refine returnsInHanded_of_change (C := Try.checked) own started (by kernel_rfl) Try.func3
    (ChangeSpec.witness6 (enc := enc) (C := Try.checked) false ⟨#[], #[.slice none 0 0], []⟩ 8 (by kernel_rfl) (by kernel_rfl) (by kernel_rfl) (by kernel_rfl)) ?_
  intro W base args ds gs before hval0 hW hcnd _
  have hval : ∀ (j : Nat) t v, Try.f3.params[j]? = some t → args[j]? = some v → Value.okWide Try.prog W .any base t v := hval0
  have hW' := hW
  obtain ⟨p, q, hA0, hV, rfl, hfz, hnd⟩ := hW
  have hA : DataW.TrodAll enc Try.prog W 0 (fun _ => true) true Try.f3.params.toList args.toList ds p := hA0
  rw [Try.params3] at hA hval
  obtain ⟨v0, vs0, d0, ds0, p0, q0, hargs, rfl, rfl, h0, r0⟩ := trodAll_cons hA
  obtain ⟨rfl, rfl, rfl⟩ := trodAll_nil r0
  obtain rfl : args = #[v0] := by cases args; simp_all
  obtain ⟨rfl, rfl⟩ := trodVars_none hV
  obtain ⟨a0, len0, cap0, rfl⟩ := okWide_slice Try.underlying22 (hval 0 22 v0 rfl rfl)
  have k0 := h0
  have lt0 : ∀ x ∈ p0, x.block < W.heap.size := by obtain ⟨m, hm⟩ := k0; exact DataW.trod_lt m _ _ _ hm
  obtain ⟨z0, w0⟩ : ∃ zs, RowIn W a0 len0 cap0 zs := by
    obtain ⟨fuel, hf⟩ := h0
    rcases open_ints Try.underlying22 Try.underlying3 (by kernel_rfl) hf with ⟨hcs, _⟩ | ⟨x, l, c, zs, hcs, _, hl, hm, hz, _, hcell, hwz⟩
    · simp [Value.cells] at hcs
      obtain ⟨rfl, rfl, rfl⟩ := hcs
      exact ⟨[], .inl ⟨rfl, rfl, rfl, rfl⟩⟩
    · simp [Value.cells] at hcs
      obtain ⟨rfl, rfl, rfl⟩ := hcs
      exact ⟨zs, .inr ⟨_, rfl, hl, hm, by simpa using hz, hcell, hwz⟩⟩
  clear hA0 hval0
  refine (walk_ExchangesOf a0 len0 cap0 z0 W w0).mono fun e W' ⟨he, bel⟩ => ?_
  subst he
  exact ⟨_, rfl, _, _, _, [], _, [], hW', trodAll_mk1 (shut_bool Try.underlying4 _), (trodAll_cons_mk (Below.trod laidOut (by kernel_rfl) (of_decide_eq_true (by kernel_rfl)) k0 bel lt0) trodAll_mk0), rfl, bel.frame _, fun h => by cases h⟩

theorem over : Rows.fnExactExchangesOfRow.holds Try.pinned (OpenSpec.ofChange Rows.fnExactExchangesOfSpec) :=
  OpenClaim.holds_of_wide 3 Try.f3 rfl rfl rfl rfl rfl rfl rfl ⟨rfl, rfl, rfl, rfl, rfl⟩ rfl rfl rfl rfl rfl (by as_aux_lemma => kernel_rfl) Try.func3 (by as_aux_lemma => kernel_rfl)
    (of_decide_eq_true (by as_aux_lemma => kernel_rfl)) (by unfold Func.isWrapper; first | (rw [if_pos (by decide +kernel)]; kernel_rfl) | (rw [if_neg (by decide +kernel)]; exact ⟨rfl, rfl⟩))
    (fun os started H enc _ => lifted os started H enc)

theorem proved : Rows.FnExactExchangesOfSaid := over
#print axioms proved
end Go.Proofs.Yteeoepbbocdchaa.fnExactExchangesOf
