/-
  FnExactCountShortest answers true at every input that can be read, and writes into nothing that was there before the call: the program's function answers as the model's does, writes into no argument, and its answer owns its memory.
  Conditions: none but the row's own.
-/
import Derived.Test.YtfcjgcbjiongpabRows
import Derived.ProofKit
import Derived.OpenShut
import Derived.ShutString
import Derived.ChangeOld
import Derived.Below
import Derived.Test.YtfcjgcbjiongpabSlice
import Derived.Test.YtfcjgcbjiongpabExWays
namespace Go.Proofs.Ytfcjgcbjiongpab
open Go.RowKit
set_option linter.unusedSimpArgs false
set_option linter.unusedVariables false

set_option maxHeartbeats 4000000 in
theorem core_CountShortest (a0 : Option Addr) (n0 c0 : Nat) (l0 : List Int) (a1 : Option Addr) (n1 c1 : Nat) (l1 : List Int) (r : Int) (ok : Bool) (w : World) (h0 : Rd w (.slice a0 n0 c0) l0) (m0 : n0 ≤ 1048576) (h1 : Rd w (.slice a1 n1 c1) l1) (m1 : n1 ≤ 1048576) (hs : ∀ (w : World) (u0 u1 : Value),Rd w u0 l0 → Rd w u1 l1 → Calls Try.prog 18 #[u0, u1] w (GivesN w r ok)) (hi : ∀ (w : World) (u0 u1 : Value),Rd w u0 l0 → Rd w u1 l1 → Calls Try.prog 19 #[u0, u1] w (GivesN w r ok)) :
    Calls Try.prog 4 #[.slice a0 n0 c0, .slice a1 n1 c1] w (Good w) := by
  have HS := Lib.hid hs; clear hs
  have HI := Lib.hid hi; clear hi
  have q0 : l0.length = n0 := by obtain ⟨_, _, hv, _⟩ := h0; simp at hv; exact hv.2.1.symm
  have Q0 := Lib.hid q0; have M0 : Hid (l0.length ≤ 1048576) := by rw [q0]; exact m0
  clear q0
  have q1 : l1.length = n1 := by obtain ⟨_, _, hv, _⟩ := h1; simp at hv; exact hv.2.1.symm
  have Q1 := Lib.hid q1; have M1 : Hid (l1.length ≤ 1048576) := by rw [q1]; exact m1
  clear q1
  go_enter Try.func4, Try.ntmps4
  go_wp2_with fail
  refine (toIntS_ok _ l0 _ h0 M0.out).mono ?_
  rintro e w1 ⟨u0, rfl, ou0, hb⟩
  have C : Below w.heap.size w w1 := hb
  have Z1 := Lib.hid (Below.size hb); clear hb
  have Iu0 := Lib.hid (Own.inn ou0)
  go_wp2_with fail
  refine (toIntS_ok _ l1 _ (Rd.below h1 C) M1.out).mono ?_
  rintro e w2 ⟨u1, rfl, ou1, hb⟩
  replace C := Below.step C hb
  replace ou0 := Own.below ou0 hb
  have Z2 := Lib.hid (Below.size hb); clear hb
  have Iu1 := Lib.hid (Own.inn ou1)
  go_wp2_with fail
  refine (HS.out _ u0 u1 (Own.rd ou0) (Own.rd ou1)).mono ?_
  rintro e w3 ⟨rfl, hb⟩
  replace C := Below.step C hb
  replace ou0 := Own.below ou0 hb
  replace ou1 := Own.below ou1 hb
  have Z3 := Lib.hid (Below.size hb); clear hb
  go_wp2_with fail
  refine (toIntS_ok _ l0 _ (Rd.below h0 C) M0.out).mono ?_
  rintro e w4 ⟨x0s, rfl, ox0s, hb⟩
  replace C := Below.step C hb
  replace ou0 := Own.below ou0 hb
  replace ou1 := Own.below ou1 hb
  have Z4 := Lib.hid (Below.size hb); clear hb
  have Ix0s := Lib.hid (Own.inn ox0s)
  go_wp2_with fail
  refine (toIntS_ok _ l1 _ (Rd.below h1 C) M1.out).mono ?_
  rintro e w5 ⟨x1s, rfl, ox1s, hb⟩
  replace C := Below.step C hb
  replace ou0 := Own.below ou0 hb
  replace ou1 := Own.below ou1 hb
  replace ox0s := Own.below ox0s hb
  have Z5 := Lib.hid (Below.size hb); clear hb
  have Ix1s := Lib.hid (Own.inn ox1s)
  go_wp2_with fail
  refine (HI.out _ x0s x1s (Own.rd ox0s) (Own.rd ox1s)).mono ?_
  rintro e w6 ⟨rfl, hb⟩
  replace C := Below.step C hb
  replace ou0 := Own.below ou0 hb
  replace ou1 := Own.below ou1 hb
  replace ox0s := Own.below ox0s hb
  replace ox1s := Own.below ox1s hb
  have Z6 := Lib.hid (Below.size hb); clear hb
  go_wp2_with fail
  refine (toIntS_ok _ l0 _ (Rd.below h0 C) M0.out).mono ?_
  rintro e w7 ⟨y0, rfl, oy0, hb⟩
  replace C := Below.step C hb
  replace ou0 := Own.below ou0 hb
  replace ou1 := Own.below ou1 hb
  replace ox0s := Own.below ox0s hb
  replace ox1s := Own.below ox1s hb
  have Z7 := Lib.hid (Below.size hb); clear hb
  have Iy0 := Lib.hid (Own.inn oy0)
  go_wp2_with fail
  refine (eqIntS_ok _ _ l0 _ (Own.rd ox0s) (Own.rd oy0)).mono ?_
  rintro e w8 ⟨rfl, hb⟩
  replace C := Below.step C hb
  replace ou0 := Own.below ou0 hb
  replace ou1 := Own.below ou1 hb
  replace ox0s := Own.below ox0s hb
  replace ox1s := Own.below ox1s hb
  replace oy0 := Own.below oy0 hb
  have Z8 := Lib.hid (Below.size hb); clear hb
  go_wp2_with fail
  refine (toIntS_ok _ l1 _ (Rd.below h1 C) M1.out).mono ?_
  rintro e w9 ⟨y1, rfl, oy1, hb⟩
  replace C := Below.step C hb
  replace ou0 := Own.below ou0 hb
  replace ou1 := Own.below ou1 hb
  replace ox0s := Own.below ox0s hb
  replace ox1s := Own.below ox1s hb
  replace oy0 := Own.below oy0 hb
  have Z9 := Lib.hid (Below.size hb); clear hb
  have Iy1 := Lib.hid (Own.inn oy1)
  go_wp2_with fail
  refine (eqIntS_ok _ _ l1 _ (Own.rd ox1s) (Own.rd oy1)).mono ?_
  rintro e w10 ⟨rfl, hb⟩
  replace C := Below.step C hb
  replace ou0 := Own.below ou0 hb
  replace ou1 := Own.below ou1 hb
  replace ox0s := Own.below ox0s hb
  replace ox1s := Own.below ox1s hb
  replace oy0 := Own.below oy0 hb
  replace oy1 := Own.below oy1 hb
  have Z10 := Lib.hid (Below.size hb); clear hb
  go_wp2
  go_ret
  exact ⟨rfl, C⟩

set_option maxHeartbeats 1000000 in
theorem walk_CountShortest (a0 : Option Addr) (len0 cap0 : Nat) (z0 : List Int) (a1 : Option Addr) (len1 cap1 : Nat) (z1 : List Int) (w : World) (w0 : RowIn w a0 len0 cap0 z0) (w1 : RowIn w a1 len1 cap1 z1) :
    Calls Try.prog 4 #[.slice a0 len0 cap0, .slice a1 len1 cap1] w (Good w) := by
  by_cases b0 : len0 ≤ 1048576
  · by_cases b1 : len1 ≤ 1048576
    · exact core_CountShortest a0 len0 cap0 (z0.take len0) a1 len1 cap1 (z1.take len1) (res_CountShortest (z0.take len0) (z1.take len1)) (ok_CountShortest (z0.take len0) (z1.take len1)) w (RowIn.rd w0) b0 (RowIn.rd w1) b1  (fun w u0 u1 k0 k1 => spec_CountShortest (z0.take len0) (z1.take len1) w u0 u1 k0 k1 (by rw [RowIn.len w0]; exact b0) (by rw [RowIn.len w1]; exact b1) ) (fun w u0 u1 k0 k1 => impl_CountShortest (z0.take len0) (z1.take len1) w u0 u1 k0 k1 (by rw [RowIn.len w0]; exact b0) (by rw [RowIn.len w1]; exact b1) )
    · have g0 : cap0 ≤ 9223372036854775807 ∧ len0 ≤ cap0 := by rcases w0 with ⟨_, q1, q2, _⟩ | ⟨_, _, q1, q2, _⟩ <;> first | (unfold maxLen at q2; omega) | omega
      have g1 : cap1 ≤ 9223372036854775807 ∧ len1 ≤ cap1 := by rcases w1 with ⟨_, q1, q2, _⟩ | ⟨_, _, q1, q2, _⟩ <;> first | (unfold maxLen at q2; omega) | omega
      clear w0 w1
      go_enter Try.func4, Try.ntmps4
      go_wp2
      go_ret
      exact ⟨rfl, Below.refl _ _⟩
  · have g0 : cap0 ≤ 9223372036854775807 ∧ len0 ≤ cap0 := by rcases w0 with ⟨_, q1, q2, _⟩ | ⟨_, _, q1, q2, _⟩ <;> first | (unfold maxLen at q2; omega) | omega
    have g1 : cap1 ≤ 9223372036854775807 ∧ len1 ≤ cap1 := by rcases w1 with ⟨_, q1, q2, _⟩ | ⟨_, _, q1, q2, _⟩ <;> first | (unfold maxLen at q2; omega) | omega
    clear w0 w1
    go_enter Try.func4, Try.ntmps4
    go_wp2
    go_ret
    exact ⟨rfl, Below.refl _ _⟩
end Go.Proofs.Ytfcjgcbjiongpab

namespace Go.Proofs.Ytfcjgcbjiongpab.fnExactCountShortest
open Go.ChangeShapes Go.WideShapes Go.ChangeAt Go.RowKit
open Go.ChangeMaps (open_string shut_string)
set_option linter.unusedVariables false
set_option linter.unusedSimpArgs false

theorem own : ownKnob Try.prog.godebug = none := by kernel_rfl
theorem laidOut : laidOutB Try.prog = true := by kernel_rfl

set_option maxRecDepth 100000 in
theorem lifted (os : Os) (started : os.Started) (H : Type) (enc : TypeId × Value → H) :
    ReturnsInHanded {} Try.checked os 4 .any (Rows.fnExactCountShortestSpec.pre6 enc Try.prog Try.f4 Rows.fnExactCountShortestRow.domain false) (Rows.fnExactCountShortestSpec.post enc Try.prog Try.f4 false true false false) := by
  refine returnsInHanded_of_change (C := Try.checked) own started (by kernel_rfl) Try.func4
    (ChangeSpec.witness6 (enc := enc) (C := Try.checked) false ⟨#[], #[.slice none 0 0, .slice none 0 0], []⟩ 8 (by kernel_rfl) (by kernel_rfl) (by kernel_rfl) (by kernel_rfl)) ?_
  intro W base args ds gs before hval0 hW hcnd _
  have hval : ∀ (j : Nat) t v, Try.f4.params[j]? = some t → args[j]? = some v → Value.okWide Try.prog W .any base t v := hval0
  have hW' := hW
  obtain ⟨p, q, hA0, hV, rfl, hfz, hnd⟩ := hW
  have hA : DataW.TrodAll enc Try.prog W 0 (fun _ => true) true Try.f4.params.toList args.toList ds p := hA0
  rw [Try.params4] at hA hval
  obtain ⟨v0, vs0, d0, ds0, p0, q0, hargs, rfl, rfl, h0, r0⟩ := trodAll_cons hA
  obtain ⟨v1, vs1, d1, ds1, p1, q1, rfl, rfl, rfl, h1, r1⟩ := trodAll_cons r0
  obtain ⟨rfl, rfl, rfl⟩ := trodAll_nil r1
  obtain rfl : args = #[v0, v1] := by cases args; simp_all
  obtain ⟨rfl, rfl⟩ := trodVars_none hV
  obtain ⟨a0, len0, cap0, rfl⟩ := okWide_slice Try.underlying22 (hval 0 22 v0 rfl rfl)
  have k0 := h0
  have lt0 : ∀ x ∈ p0, x.block < W.heap.size := by obtain ⟨m, hm⟩ := k0; exact DataW.trod_lt m _ _ _ hm
  obtain ⟨z0, w0⟩ : ∃ zs, RowIn W a0 len0 cap0 zs := by
    obtain ⟨fuel, hf⟩ := h0
    rcases open_ints Try.underlying22 Try.underlying3 (by kernel_rfl) hf with ⟨hcs, _⟩ | ⟨x, l, c, zs, hcs, _, hl, hm, hz, _, hcell, hwz⟩
    · simp [Value.cells] at hcs
      obtain ⟨rfl, rfl, rfl⟩ := hcs
      exact ⟨[], .inl ⟨rfl, rfl, rfl, rfl⟩⟩
    · simp [Value.cells] at hcs
      obtain ⟨rfl, rfl, rfl⟩ := hcs
      exact ⟨zs, .inr ⟨_, rfl, hl, hm, by simpa using hz, hcell, hwz⟩⟩
  obtain ⟨a1, len1, cap1, rfl⟩ := okWide_slice Try.underlying22 (hval 1 22 v1 rfl rfl)
  have k1 := h1
  have lt1 : ∀ x ∈ p1, x.block < W.heap.size := by obtain ⟨m, hm⟩ := k1; exact DataW.trod_lt m _ _ _ hm
  obtain ⟨z1, w1⟩ : ∃ zs, RowIn W a1 len1 cap1 zs := by
    obtain ⟨fuel, hf⟩ := h1
    rcases open_ints Try.underlying22 Try.underlying3 (by kernel_rfl) hf with ⟨hcs, _⟩ | ⟨x, l, c, zs, hcs, _, hl, hm, hz, _, hcell, hwz⟩
    · simp [Value.cells] at hcs
      obtain ⟨rfl, rfl, rfl⟩ := hcs
      exact ⟨[], .inl ⟨rfl, rfl, rfl, rfl⟩⟩
    · simp [Value.cells] at hcs
      obtain ⟨rfl, rfl, rfl⟩ := hcs
      exact ⟨zs, .inr ⟨_, rfl, hl, hm, by simpa using hz, hcell, hwz⟩⟩
  clear hA0 hval0
  refine (walk_CountShortest a0 len0 cap0 z0 a1 len1 cap1 z1 W w0 w1).mono fun e W' ⟨he, bel⟩ => ?_
  subst he
  exact ⟨_, rfl, _, _, _, [], _, [], hW', trodAll_mk1 (shut_bool Try.underlying4 _), (trodAll_cons_mk (Below.trod laidOut (by kernel_rfl) (of_decide_eq_true (by kernel_rfl)) k0 bel lt0) (trodAll_cons_mk (Below.trod laidOut (by kernel_rfl) (of_decide_eq_true (by kernel_rfl)) k1 bel lt1) trodAll_mk0)), rfl, bel.frame _, fun h => by cases h⟩

theorem over : Rows.fnExactCountShortestRow.holds Try.pinned (OpenSpec.ofChange Rows.fnExactCountShortestSpec) :=
  OpenClaim.holds_of_wide 4 Try.f4 rfl rfl rfl rfl rfl rfl rfl ⟨rfl, rfl, rfl, rfl, rfl⟩ rfl rfl rfl rfl rfl (by as_aux_lemma => kernel_rfl) Try.func4 (by as_aux_lemma => kernel_rfl)
    (of_decide_eq_true (by as_aux_lemma => kernel_rfl)) (by unfold Func.isWrapper; first | (rw [if_pos (by decide +kernel)]; kernel_rfl) | (rw [if_neg (by decide +kernel)]; exact ⟨rfl, rfl⟩))
    (fun os started H enc _ => lifted os started H enc)

theorem proved : Rows.FnExactCountShortestSaid := over
#print axioms proved
end Go.Proofs.Ytfcjgcbjiongpab.fnExactCountShortest
