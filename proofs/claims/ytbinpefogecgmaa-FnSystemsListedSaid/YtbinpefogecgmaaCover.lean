/- CoverSystem. -/
import Derived.Test.YtbinpefogecgmaaShift
import Derived.Test.YtbinpefogecgmaaPutArch
namespace Go.Proofs.Ytbinpefogecgmaa
open Go.RowKit
set_option linter.unusedSimpArgs false
set_option linter.unusedVariables false

def coverL (l : List Int) : List Int := ((l.length : Int) + 1) :: (shiftL l 1 ++ [0])
def coverCheck (l : List Int) : Bool := decide (10 < l.length) || (noCrossB (putL l 0 (l.length + 1)) && (putL l 0 (l.length + 1) == coverL l))
theorem coverCheck0 : (sysAll 0).all coverCheck = true := by kernel_rfl
theorem coverCheck1 : (sysAll 1).all coverCheck = true := by kernel_rfl
theorem coverCheck2 : (sysAll 2).all coverCheck = true := by kernel_rfl
theorem coverCheck3 : (sysAll 3).all coverCheck = true := by kernel_rfl
theorem coverCheck4 : (sysAll 4).all coverCheck = true := by kernel_rfl
theorem coverCheck5 : (sysAll 5).all coverCheck = true := by kernel_rfl
theorem coverCheck6 : (sysAll 6).all coverCheck = true := by kernel_rfl

def ok_CoverSystem (l : List Int) : Bool := goodB l && decide (l.length ≤ 10)
def res_CoverSystem (l : List Int) : List Int := if ok_CoverSystem l then coverL l else []
theorem len_CoverSystem (l : List Int) : (res_CoverSystem l).length ≤ 1000000 := by
  unfold res_CoverSystem
  split
  · next h => simp [ok_CoverSystem] at h; simp [coverL, shiftL_length]; omega
  · simp

theorem cover_eq (l : List Int) : ok_PutArch l 0 ((l.length : Int) + 1) = ok_CoverSystem l ∧ res_PutArch l 0 ((l.length : Int) + 1) = res_CoverSystem l := by
  have key : ok_CoverSystem l = true → noCrossB (putL l 0 (l.length + 1)) = true ∧ putL l 0 (l.length + 1) = coverL l := by
    intro h
    simp only [ok_CoverSystem, Bool.and_eq_true, decide_eq_true_eq] at h
    have h1 := good_all6 coverCheck0 coverCheck1 coverCheck2 coverCheck3 coverCheck4 coverCheck5 coverCheck6 h.1
    simp only [coverCheck, Bool.or_eq_true, decide_eq_true_eq, Bool.and_eq_true, beq_iff_eq] at h1
    rcases h1 with h1 | h1
    · omega
    · exact h1
  have e1 : ((l.length : Int) + 1).toNat = l.length + 1 := by omega
  have e2 : ok_PutArch l 0 ((l.length : Int) + 1) = ok_CoverSystem l := by
    unfold ok_PutArch
    rw [e1, decide_eq_true (show (0 : Int) ≤ 0 ∧ (0 : Int) < (l.length : Int) + 1 ∧ (l.length : Int) + 1 < (l.length : Int) + 2 by omega), Bool.and_true]
    cases h : ok_CoverSystem l with
    | true =>
      have h2 := (key h).1
      unfold ok_CoverSystem at h
      rw [h]
      exact h2
    | false =>
      unfold ok_CoverSystem at h
      rw [h]; rfl
  refine ⟨e2, ?_⟩
  unfold res_PutArch res_CoverSystem
  rw [e2, e1]
  cases h : ok_CoverSystem l with
  | true => exact (key h).2
  | false => rfl

set_option maxHeartbeats 1000000 in
theorem impl_CoverSystem (l : List Int) (w : World) (u : Value) (h : Rd w u l) (m : l.length ≤ 1048576) : Calls Try.prog 35 #[u] w (Gives w (res_CoverSystem l) (ok_CoverSystem l)) := by
  have hp := impl_PutArch l 0 ((l.length : Int) + 1) w u h m
  rw [(cover_eq l).1, (cover_eq l).2] at hp
  obtain ⟨a, c, rfl, hlc, hcm, hnc, hrd⟩ := h
  have HP := Lib.hid hp; clear hp hrd hnc
  obtain ⟨n, hn⟩ : ∃ n, n = l.length := ⟨_, rfl⟩
  rw [← hn] at HP m hlc ⊢
  clear hn
  go_enter Try.func35, Try.ntmps35
  go_wp2_with (go_at_call 49; refine HP.out.mono ?_; rintro e w1 ⟨v, rfl, hown, hb⟩)
  go_ret2
  exact ⟨_, rfl, hown, hb⟩

set_option maxHeartbeats 1000000 in
theorem spec_CoverSystem (l : List Int) (w : World) (u : Value) (h : Rd w u l) (m : l.length ≤ 1048576) : Calls Try.prog 36 #[u] w (Gives w (res_CoverSystem l) (ok_CoverSystem l)) := by
  have hgood := ahGood_any u l w h m
  cases hg : goodB l with
  | false =>
    have e1 : ok_CoverSystem l = false := by simp [ok_CoverSystem, hg]
    have e2 : res_CoverSystem l = [] := by simp [res_CoverSystem, e1]
    rw [e1, e2]
    rw [hg] at hgood
    have HA := Lib.hid hgood; clear hg hgood e1 e2
    go_enter Try.func36, Try.ntmps36
    go_wp2_with (go_at_call 92; refine HA.out.mono ?_; rintro e w1 ⟨rfl, hb⟩)
    go_ret2
    exact ⟨_, rfl, Own.nil _ _, hb⟩
  | true =>
    rw [hg] at hgood
    have hl12 := good_len' hg
    have hev := (good_facts hg).1
    have hr : ∀ k, k < l.length → 0 ≤ l.getD k 0 ∧ l.getD k 0 ≤ 100 := fun k hk => ⟨((good_facts hg).2.2.1 k hk).1, by have := ((good_facts hg).2.2.1 k hk).2.1; omega⟩
    have h0 := h
    obtain ⟨a, c, rfl, hlc, hcm, hnc, hrd⟩ := h
    have HA := Lib.hid hgood; have HR := Lib.hid hr; have H0 := Lib.hid h0
    clear hgood hr h0 hrd hnc
    unfold maxLen at hcm
    by_cases h10 : l.length ≤ 10
    · have e1 : ok_CoverSystem l = true := by simp [ok_CoverSystem, hg, h10]
      have e2 : res_CoverSystem l = coverL l := by simp [res_CoverSystem, e1]
      rw [e1, e2]
      have HC : Hid (coverL l = [(l.length : Int) + 1] ++ shiftL l 1 ++ [0]) := by show coverL l = _; simp [coverL]
      have HS : Hid ((shiftL l 1).length = l.length) := shiftL_length l 1
      have HL := Lib.hid hl12
      clear e1 e2 hg hl12
      obtain ⟨n, hn⟩ : ∃ n, n = l.length := ⟨_, rfl⟩
      rw [← hn] at HA H0 hlc h10 HC HS ⊢
      have HN := Lib.hid hn; clear hn m hev
      have h5 : ((n : Int) == 12) = false := by simp; omega
      go_enter Try.func36, Try.ntmps36
      go_wp2_with (first
        | (go_at_call 92; refine HA.out.mono ?_; rintro e w1 ⟨rfl, hb⟩)
        | (go_at_call 98; ((with_reducible refine (ahShift_any _ l 1 _ (Rd.below (Rd.below H0.out hb) (Below.alloc1 _ _)) HL.out HR.out (by omega) (by omega)).mono ?_); rintro e w2 ⟨v2, rfl, hown2, hb2⟩))
        | (at_builtin; refine wp_append _ rfl (.tmp 16) (.tmp 18) rfl w1.heap.size _ _ [(n : Int) + 1] (shiftL l 1) rfl rfl (Own.below (Own.lit1 _ _ _ (Nat.le_refl _)) hb2) (Own.rd hown2) (by rw [HS.out]; simp; omega) (by have := hb2.size; simp at this; omega) ?_; intro v3 w3 hown3 hgr3 hbel3)
        | (at_builtin; refine wp_append _ rfl (.tmp 20) (.tmp 21) rfl w1.heap.size _ _ ([(n : Int) + 1] ++ shiftL l 1) [0] rfl rfl (Own.below hown3 (Below.alloc1 _ _)) (Own.rd (Own.lit1 _ _ _ (Nat.le_refl _))) (by simp; rw [HS.out]; omega) (by have := hbel3.size; have := hb2.size; simp at *; omega) ?_; intro v4 w4 hown4 hgr4 hbel4))
      go_ret2
      have z1 := hb.size
      have z2 := hb2.size
      have z3 := hbel3.size
      simp only [World.size_alloc] at z2
      have C1 : Below w.heap.size w w3 := ((hb.alloc z1 _).trans (hb2.mono (by simp; omega))).trans (hbel3.mono z1)
      refine ⟨_, rfl, ?_, (C1.alloc (by omega) _).trans (hbel4.mono z1)⟩
      rw [HC.out]
      exact hown4.mono z1
    · have e1 : ok_CoverSystem l = false := by simp [ok_CoverSystem, h10]
      have e2 : res_CoverSystem l = [] := by simp [res_CoverSystem, e1]
      rw [e1, e2]
      clear e1 e2 hg
      obtain ⟨n, hn⟩ : ∃ n, n = l.length := ⟨_, rfl⟩
      rw [← hn] at HA hlc h10 hl12 hev ⊢
      clear hn m HR H0
      obtain rfl : n = 12 := by omega
      go_enter Try.func36, Try.ntmps36
      go_wp2_with (go_at_call 92; refine HA.out.mono ?_; rintro e w1 ⟨rfl, hb⟩)
      go_ret2
      exact ⟨_, rfl, Own.nil _ _, hb⟩

end Go.Proofs.Ytbinpefogecgmaa
