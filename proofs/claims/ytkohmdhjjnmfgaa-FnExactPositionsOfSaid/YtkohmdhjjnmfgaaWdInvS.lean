/- InverseOf, BackwardsOf and MirrorPermutation in the model. -/
import Derived.Test.YtkohmdhjjnmfgaaWdInv
import Derived.Test.YtkohmdhjjnmfgaaWdSpec
import Derived.Test.YtkohmdhjjnmfgaaOwn
namespace Go.Proofs.Ytkohmdhjjnmfgaa
open Go.RowKit
set_option linter.unusedSimpArgs false
set_option linter.unusedVariables false

theorem putK_inv {l : List Int} (h : wordB l = true) : putK l (fun i => (i : Int)) l.length l.length = res_InverseOf l := by
  unfold res_InverseOf
  rw [h, selL_yes]
  exact putK_tell h _ _ fun i hi => word_idx h hi

set_option maxHeartbeats 2000000 in
theorem spec_InverseOf (l : List Int) (w : World) (u : Value) (h : Rd w u l) (m : l.length ≤ 1048576) : Calls Try.prog 20 #[u] w (Gives w (res_InverseOf l) (ok_InverseOf l)) := by
  have hpw := fun w h => peWord_any u l w h m
  unfold ok_InverseOf
  cases hg : wordB l with
  | false =>
    have hr : res_InverseOf l = [] := by unfold res_InverseOf; rw [hg]; rfl
    rw [hr]
    rw [hg] at hpw
    have HPW := Lib.hid hpw; have H := Lib.hid h
    clear hpw hg hr
    go_enter Try.func20, Try.ntmps20
    go_wp2_with (go_at_call 33; refine (HPW.out _ H.out).mono ?_; rintro e w1 ⟨rfl, rfl⟩)
    go_ret2
    exact ⟨_, rfl, Own.nil _ _, Below.refl _ _⟩
  | true =>
    rw [← putK_inv hg]
    rw [hg] at hpw
    obtain ⟨h12, hin, _⟩ := word_facts hg
    have h0 := h
    obtain ⟨a, c, rfl, hlc, hcm, hnc, hrd⟩ := h
    obtain ⟨n, hn⟩ : ∃ n, n = l.length := ⟨_, rfl⟩
    rw [← hn] at hlc h12 h0 hrd hpw ⊢
    unfold maxLen at hcm
    have HPW := Lib.hid hpw; have H0 := Lib.hid h0; have HN := Lib.hid hn; have HIN := Lib.hid hin; have HC := Lib.hid hrd
    clear hpw h0 hg hn hin hrd hnc
    go_enter Try.func20, Try.ntmps20
    go_wp2_with (first
      | (go_at_call 33; refine (HPW.out _ H0.out).mono ?_; rintro e w1 ⟨rfl, rfl⟩)
      | (at_make; refine wp_make w rfl _ _ rfl n _ _ rfl rfl rfl rfl (by omega) ?_; intro w2 hown hbel hsz; have HO := Lib.hid hown; have HB := Lib.hid hbel; clear hown hbel hsz))
    go_loopw [15] (fun i wr => ∃ k : Nat, k ≤ n ∧ i = .int .i64 k ∧ Own w.heap.size wr (.slice (some ⟨w.heap.size, 0, none⟩) n n) (putK l (fun i => (i : Int)) n k) ∧ Below w.heap.size w wr) (fun i _ => n - (intOf i).toNat)
    case atStart => exact ⟨0, by omega, rfl, HO.out, HB.out⟩
    case round =>
      obtain ⟨k, hk, rfl, hown, hbel⟩ := hrel
      clear HO HB
      by_cases hlt : k < n
      · rcases HC.out with h0 | ⟨bb, off, rfl, hcell⟩
        · exfalso; rw [HN.out, h0] at hlt; simp at hlt
        have hsrc : wr.cell? ⟨bb, off + k, none⟩ = some (.int .i64 (l.getD k 0)) := by
          have := hcell k hlt
          exact (hbel.cell (p := ⟨bb, off + k, none⟩) (World.block_lt_of_cell? w _ this)).trans this
        have hx := HIN.out k (by rw [← HN.out]; exact hlt)
        rw [← HN.out] at hx
        have hL := putK_length l (fun i => (i : Int)) n k
        have hnext : putK l (fun i => (i : Int)) n (k + 1) = (putK l (fun i => (i : Int)) n k).set (l.getD k 0).toNat (k : Int) := rfl
        obtain ⟨j, hj⟩ := Int.eq_ofNat_of_zero_le hx.1
        rw [hj] at hsrc hnext hx
        rw [Int.toNat_natCast] at hnext
        have hjn : j < n := by omega
        have hdst := hown.cellAt j (by rw [hL]; exact hjn)
        have hfr := hown.frozenAt j
        have hnew := hown.stored j (k : Int)
        rw [← hnext] at hnew
        have HW := Lib.hid hnew
        have HB := Lib.hid (hbel.setCell (p := ⟨w.heap.size, j, none⟩) (Nat.le_refl _) (.int .i64 (k : Int)))
        clear hnew hown hbel hcell hL hnext hj
        generalize (putK l (fun i => (i : Int)) n k).getD j 0 = z at hdst
        go_wp2
        go_roundw
        case rel => exact ⟨k + 1, by omega, by go_num, HW.out, HB.out⟩
        case measure => simp [intOf]; omega
      · obtain rfl : k = n := by omega
        go_wp2
        go_ret2
        exact ⟨_, rfl, hown, hbel⟩

theorem res_back {l : List Int} (h : wordB l = true) : res_BackwardsOf l = tellL l.length fun k => l.getD (l.length - 1 - k) 0 := by
  unfold res_BackwardsOf
  rw [h, selL_yes]

set_option maxHeartbeats 2000000 in
theorem spec_BackwardsOf (l : List Int) (w : World) (u : Value) (h : Rd w u l) (m : l.length ≤ 1048576) : Calls Try.prog 22 #[u] w (Gives w (res_BackwardsOf l) (ok_BackwardsOf l)) := by
  have hpw := fun w h => peWord_any u l w h m
  unfold ok_BackwardsOf
  cases hg : wordB l with
  | false =>
    have hr : res_BackwardsOf l = [] := by unfold res_BackwardsOf; rw [hg]; rfl
    rw [hr]
    rw [hg] at hpw
    have HPW := Lib.hid hpw; have H := Lib.hid h
    clear hpw hg hr
    go_enter Try.func22, Try.ntmps22
    go_wp2_with (go_at_call 33; refine (HPW.out _ H.out).mono ?_; rintro e w1 ⟨rfl, rfl⟩)
    go_ret2
    exact ⟨_, rfl, Own.nil _ _, Below.refl _ _⟩
  | true =>
    rw [res_back hg]
    rw [hg] at hpw
    obtain ⟨h12, hin, _⟩ := word_facts hg
    have h0 := h
    obtain ⟨a, c, rfl, hlc, hcm, hnc, hrd⟩ := h
    obtain ⟨n, hn⟩ : ∃ n, n = l.length := ⟨_, rfl⟩
    rw [← hn] at hlc h12 h0 hrd hpw ⊢
    unfold maxLen at hcm
    have HPW := Lib.hid hpw; have H0 := Lib.hid h0; have HN := Lib.hid hn; have HC := Lib.hid hrd
    have hw1 : IntKind.i64.wrap ((n : Int) - 1) = (n : Int) - 1 := IntWalk.i64_in _ (by omega)
    clear hpw h0 hg hn hin hrd hnc
    go_enter Try.func22, Try.ntmps22
    go_wp2_with (go_at_call 33; refine (HPW.out _ H0.out).mono ?_; rintro e w1 ⟨rfl, rfl⟩)
    go_loopw [4, 5] (fun o i wr => ∃ k : Nat, k ≤ n ∧ i = .int .i64 ((n : Int) - 1 - k) ∧ Own w.heap.size wr o (tellL k fun k => l.getD (n - 1 - k) 0) ∧ Below w.heap.size w wr) (fun _ i _ => (intOf i + 1).toNat)
    case atStart => exact ⟨0, by omega, by first | rfl | go_num | (simp), Own.nil _ _, Below.refl _ _⟩
    case round =>
      obtain ⟨k, hk, rfl, hown, hbel⟩ := hrel
      by_cases hlt : k < n
      · rcases HC.out with h0 | ⟨bb, off, rfl, hcell⟩
        · exfalso; rw [HN.out, h0] at hlt; simp at hlt
        obtain ⟨j, hj⟩ : ∃ j, j = n - 1 - k := ⟨_, rfl⟩
        have hji : (n : Int) - 1 - (k : Int) = (j : Int) := by omega
        rw [hji]
        have hjn : j < n := by omega
        have hsrc : wr.cell? ⟨bb, off + j, none⟩ = some (.int .i64 (l.getD j 0)) := by
          have := hcell j hjn
          exact (hbel.cell (p := ⟨bb, off + j, none⟩) (World.block_lt_of_cell? w _ this)).trans this
        have hL := tellL_length k fun k => l.getD (n - 1 - k) 0
        have hnext := tellL_succ k fun k => l.getD (n - 1 - k) 0
        simp only [← hj] at hnext
        generalize l.getD j 0 = x at hsrc hnext
        have hsz := hbel.size
        have HL := Lib.hid hL; have HX := Lib.hid hnext
        have HJ : Hid (j + 1 + k = n) := by show j + 1 + k = n; omega
        have hj0 : (0 : Int) ≤ (j : Int) := by omega
        clear hj hji
        have hwj : IntKind.i64.wrap ((j : Int) - 1) = (j : Int) - 1 := IntWalk.i64_in _ (by omega)
        clear hL hnext hcell
        generalize tellL k (fun k => l.getD (n - 1 - k) 0) = t at hown HL HX
        obtain ⟨f1, f2, f3, rfl⟩ := hown.form'
        have HO := Lib.hid hown; clear hown
        go_wp2_with (at_builtin; refine wp_append _ rfl _ _ rfl w.heap.size _ _ t [x] rfl rfl (Own.below HO.out (Below.alloc1 _ _)) (Own.rd (Own.lit1 _ _ _ (Nat.le_refl _))) (by rw [HL.out]; simp; omega) (by simp; omega) ?_; intro v' w1 hown1 hgr hbel1; have HO1 := Lib.hid hown1; have HB1 := Lib.hid ((hbel.alloc hsz _).trans hbel1); clear hown1 hgr hbel1)
        go_roundw
        case rel => exact ⟨k + 1, by omega, by rw [show (n : Int) - 1 - ((k + 1 : Nat) : Int) = (j : Int) - 1 by have := HJ.out; omega], by rw [HX.out]; exact HO1.out, HB1.out⟩
        case measure => have := HJ.out; simp [intOf] <;> omega
      · obtain rfl : k = n := by omega
        have hneg : (k : Int) - 1 - (k : Int) = -1 := by omega
        rw [hneg]
        go_wp2
        go_ret2
        exact ⟨_, rfl, hown, hbel⟩

theorem res_mirP {l : List Int} (h : wordB l = true) : res_MirrorPermutation l = tellL l.length fun k => (l.length : Int) - 1 - l.getD k 0 := by
  unfold res_MirrorPermutation
  rw [h, selL_yes]

set_option maxHeartbeats 2000000 in
theorem spec_MirrorPermutation (l : List Int) (w : World) (u : Value) (h : Rd w u l) (m : l.length ≤ 1048576) : Calls Try.prog 24 #[u] w (Gives w (res_MirrorPermutation l) (ok_MirrorPermutation l)) := by
  have hpw := fun w h => peWord_any u l w h m
  unfold ok_MirrorPermutation
  cases hg : wordB l with
  | false =>
    have hr : res_MirrorPermutation l = [] := by unfold res_MirrorPermutation; rw [hg]; rfl
    rw [hr]
    rw [hg] at hpw
    have HPW := Lib.hid hpw; have H := Lib.hid h
    clear hpw hg hr
    go_enter Try.func24, Try.ntmps24
    go_wp2_with (go_at_call 33; refine (HPW.out _ H.out).mono ?_; rintro e w1 ⟨rfl, rfl⟩)
    go_ret2
    exact ⟨_, rfl, Own.nil _ _, Below.refl _ _⟩
  | true =>
    rw [res_mirP hg]
    rw [hg] at hpw
    obtain ⟨h12, hin, _⟩ := word_facts hg
    have h0 := h
    obtain ⟨a, c, rfl, hlc, hcm, hnc, hrd⟩ := h
    obtain ⟨n, hn⟩ : ∃ n, n = l.length := ⟨_, rfl⟩
    rw [← hn] at hlc h12 h0 hrd hpw ⊢
    unfold maxLen at hcm
    have HPW := Lib.hid hpw; have H0 := Lib.hid h0; have HN := Lib.hid hn; have HC := Lib.hid hrd; have HIN := Lib.hid hin
    have hw1 : IntKind.i64.wrap ((n : Int) - 1) = (n : Int) - 1 := IntWalk.i64_in _ (by omega)
    clear hpw h0 hg hn hin hrd hnc
    go_enter Try.func24, Try.ntmps24
    go_wp2_with (go_at_call 33; refine (HPW.out _ H0.out).mono ?_; rintro e w1 ⟨rfl, rfl⟩)
    go_loopw [4, 12] (fun o i wr => ∃ k : Nat, k ≤ n ∧ i = .int .i64 k ∧ Own w.heap.size wr o (tellL k fun k => (n : Int) - 1 - l.getD k 0) ∧ Below w.heap.size w wr) (fun _ i _ => n - (intOf i).toNat)
    case atStart => exact ⟨0, by omega, rfl, Own.nil _ _, Below.refl _ _⟩
    case round =>
      obtain ⟨k, hk, rfl, hown, hbel⟩ := hrel
      by_cases hlt : k < n
      · rcases HC.out with h0 | ⟨bb, off, rfl, hcell⟩
        · exfalso; rw [HN.out, h0] at hlt; simp at hlt
        have hsrc : wr.cell? ⟨bb, off + k, none⟩ = some (.int .i64 (l.getD k 0)) := by
          have := hcell k hlt
          exact (hbel.cell (p := ⟨bb, off + k, none⟩) (World.block_lt_of_cell? w _ this)).trans this
        have hx := HIN.out k (by rw [← HN.out]; exact hlt)
        rw [← HN.out] at hx
        have hL := tellL_length k fun k => (n : Int) - 1 - l.getD k 0
        have hnext := tellL_succ k fun k => (n : Int) - 1 - l.getD k 0
        generalize l.getD k 0 = x at hsrc hnext hx
        have hsz := hbel.size
        have HL := Lib.hid hL; have HX := Lib.hid hnext
        have hw2 : IntKind.i64.wrap ((n : Int) - 1 - x) = (n : Int) - 1 - x := IntWalk.i64_in _ (by omega)
        clear hL hnext hcell
        generalize tellL k (fun k => (n : Int) - 1 - l.getD k 0) = t at hown HL HX
        obtain ⟨f1, f2, f3, rfl⟩ := hown.form'
        have HO := Lib.hid hown; clear hown
        go_wp2_with (at_builtin; refine wp_append _ rfl _ _ rfl w.heap.size _ _ t [(n : Int) - 1 - x] rfl rfl (Own.below HO.out (Below.alloc1 _ _)) (Own.rd (Own.lit1 _ _ _ (Nat.le_refl _))) (by rw [HL.out]; simp; omega) (by simp; omega) ?_; intro v' w1 hown1 hgr hbel1; have HO1 := Lib.hid hown1; have HB1 := Lib.hid ((hbel.alloc hsz _).trans hbel1); clear hown1 hgr hbel1)
        go_roundw
        case rel => exact ⟨k + 1, by omega, by go_num, by rw [HX.out]; exact HO1.out, HB1.out⟩
        case measure => simp [intOf]; omega
      · obtain rfl : k = n := by omega
        go_wp2
        go_ret2
        exact ⟨_, rfl, hown, hbel⟩

end Go.Proofs.Ytkohmdhjjnmfgaa
