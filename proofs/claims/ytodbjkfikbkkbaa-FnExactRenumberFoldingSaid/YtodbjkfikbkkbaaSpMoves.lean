/- TurnFolding, ReverseFolding, RenumberFolding in the model. -/
import Derived.Test.YtodbjkfikbkkbaaFoldMoves
import Derived.Test.YtodbjkfikbkkbaaStkSpec
namespace Go.Proofs.Ytodbjkfikbkkbaa
open Go.RowKit
set_option linter.unusedSimpArgs false
set_option linter.unusedVariables false

theorem shiftTo_run (b n i : Int) (hn : 0 < n) (hn1 : n ≤ 12) : (wrap64 ((i + b).tmod n + n)).tmod n = shiftTo b n i := by
  have h1 := Int.tmod_lt_of_pos (i + b) hn
  have h2 := Int.lt_tmod_of_pos (i + b) hn
  rw [IntWalk.wrap64_in _ (by omega)]
  rfl

set_option maxHeartbeats 2000000 in
theorem spTurn_any (l : List Int) (b : Int) (w : World) (u : Value) (h : Rd w u l) (hs : stackB l = true) (hb0 : -100 ≤ b) (hb1 : b ≤ 100) :
    Calls Try.prog 41 #[u, .int .i64 b] w (Made w (turnF l b)) := by
  have h8 := stack_len hs
  have h1 := (stack_facts hs).1
  have hml := movedL_length (shiftTo b (l.length : Int)) l
  obtain ⟨bb, off, c, rfl, hlc, hcm, hcell⟩ := h.at h1
  unfold turnF
  obtain ⟨n, hn⟩ : ∃ n, n = l.length := ⟨_, rfl⟩
  rw [← hn] at hlc hcell h8 h1 hml ⊢
  unfold maxLen at hcm
  have hz : List.replicate n (0 : Int) = movedL (shiftTo b (n : Int)) l 0 := by rw [hn]; rfl
  have HZ := Lib.hid hz; have HC := Lib.hid hcell; have HML := Lib.hid hml
  clear hn hcell hs hz hml h
  go_enter Try.func41, Try.ntmps41
  go_wp2_with (at_make; refine wp_make w rfl _ _ rfl n _ _ rfl rfl rfl rfl (by omega) ?_; intro w2 hown hbel hsz; rw [HZ.out] at hown)
  go_loopw [15] (fun i wr => ∃ k : Nat, k ≤ n ∧ i = .int .i64 k ∧ Own w.heap.size wr (.slice (some ⟨w.heap.size, 0, none⟩) n n) (movedL (shiftTo b (n : Int)) l k) ∧ Below w.heap.size w wr) (fun i _ => n - (intOf i).toNat)
  case atStart => exact ⟨0, by omega, rfl, hown, hbel⟩
  case round =>
    clear hown hbel hsz
    obtain ⟨k, hk, rfl, hown, hbel⟩ := hrel
    by_cases hlt : k < n
    · have hsrc : wr.cell? ⟨bb, off + k, none⟩ = some (.int .i64 (l.getD k 0)) := by
        have := HC.out k hlt
        exact (hbel.cell (p := ⟨bb, off + k, none⟩) (World.block_lt_of_cell? w _ this)).trans this
      have hin := shiftTo_in b n k (by omega)
      have e1 := shiftTo_run b n k (by omega) (by omega)
      have hnext : movedL (shiftTo b (n : Int)) l (k + 1) = (movedL (shiftTo b (n : Int)) l k).set (shiftTo b n k).toNat (l.getD k 0) := rfl
      obtain ⟨j, hj⟩ := Int.eq_ofNat_of_zero_le hin.1
      rw [hj] at e1 hnext hin
      rw [Int.toNat_natCast] at hnext
      generalize l.getD k 0 = x at hsrc hnext
      have hjn : j < n := by omega
      have hdst := hown.cellAt j (by rw [HML.out]; omega)
      have hfr := hown.frozenAt j
      have hnew := hown.stored j x
      rw [← hnext] at hnew
      have HW := Lib.hid hnew
      have HB := Lib.hid (hbel.setCell (p := ⟨w.heap.size, j, none⟩) (Nat.le_refl _) (.int .i64 x))
      clear hnew hown hbel hnext hj hin
      generalize (movedL (shiftTo b (n : Int)) l k).getD j 0 = z at hdst
      go_wp2
      go_roundw
      case rel => exact ⟨k + 1, by omega, by go_num, HW.out, HB.out⟩
      case measure => first | (simp [intOf]; done) | (simp [intOf]; omega)
    · obtain rfl : k = n := by omega
      go_wp2
      go_ret
      exact ⟨_, rfl, hown, hbel⟩

set_option maxHeartbeats 1000000 in
theorem spec_TurnFolding (l : List Int) (b : Int) (w : World) (u : Value) (h : Rd w u l) (m : l.length ≤ 1048576) : Calls Try.prog 21 #[u, .int .i64 b] w (Gives w (res_TurnFolding l b) (ok_TurnFolding l b)) := by
  unfold res_TurnFolding ok_TurnFolding
  have HP := Lib.hid (spStack_any u l w h)
  cases hg : stackB l with
  | true =>
    rw [hg] at HP
    by_cases hb : -100 ≤ b ∧ b ≤ 100
    · rw [inB_yes hb.1 hb.2]
      simp only [Bool.and_self, if_true]
      have HI := Lib.hid (inB_yes hb.1 hb.2)
      have HT := Lib.hid (spTurn_any l b w u h hg hb.1 hb.2)
      clear hg h hb
      go_enter Try.func21, Try.ntmps21
      go_wp2_with (first
        | (go_at_call 34; refine HP.out.mono ?_; rintro e w1 ⟨rfl, rfl⟩)
        | (go_at_call 40; refine (l1In_any _ _ _ _).mono ?_; rintro e w' ⟨rfl, rfl⟩; rw [HI.out])
        | (go_at_call 41; refine HT.out.mono ?_; rintro e w1 ⟨v, rfl, hown, hb⟩))
      go_ret2
      exact ⟨_, rfl, hown, hb⟩
    · rw [inB_no hb]
      simp only [Bool.and_false]
      have HI := Lib.hid (inB_no hb)
      clear hg h hb
      go_enter Try.func21, Try.ntmps21
      go_wp2_with (first
        | (go_at_call 34; refine HP.out.mono ?_; rintro e w1 ⟨rfl, rfl⟩)
        | (go_at_call 40; refine (l1In_any _ _ _ _).mono ?_; rintro e w' ⟨rfl, rfl⟩; rw [HI.out]))
      go_ret2
      exact ⟨_, rfl, Own.nil _ _, Below.refl _ _⟩
  | false =>
    rw [hg] at HP
    simp only [Bool.false_and]
    clear hg h
    go_enter Try.func21, Try.ntmps21
    go_wp2_with (go_at_call 34; refine HP.out.mono ?_; rintro e w1 ⟨rfl, rfl⟩)
    go_ret2
    exact ⟨_, rfl, Own.nil _ _, Below.refl _ _⟩

theorem revK (l : List Int) : ∀ k, k ≤ l.length → movedL (fun i => (l.length : Int) - 1 - i) l k = List.replicate (l.length - k) 0 ++ (l.take k).reverse
  | 0, _ => by simp [movedL]
  | k + 1, h => by
    rw [movedL, revK l k (by omega)]
    have e : ((l.length : Int) - 1 - (k : Int)).toNat = l.length - (k + 1) := by omega
    simp only [e]
    rw [show l.length - k = (l.length - (k + 1)) + 1 by omega, List.replicate_succ', List.append_assoc, List.set_append_right _ _ (by simp)]
    rw [List.take_succ_eq_append_getElem (by omega), List.reverse_append]
    simp [List.getD, show k < l.length by omega]
theorem revF_eq (l : List Int) : revF l = l.reverse := by
  unfold revF
  rw [revK l _ (Nat.le_refl _)]
  simp
theorem rev_snoc (l : List Int) (k : Nat) (h : k < l.length) : l.reverse.take (k + 1) = l.reverse.take k ++ [l.getD (l.length - 1 - k) 0] := by
  rw [List.take_succ_eq_append_getElem (by simpa using h)]
  congr 2
  rw [List.getElem_reverse]
  simp [List.getD, show l.length - 1 - k < l.length by omega]

set_option maxHeartbeats 1000000 in
theorem spec_ReverseFolding (l : List Int) (w : World) (u : Value) (h : Rd w u l) (m : l.length ≤ 1048576) : Calls Try.prog 24 #[u] w (Gives w (res_ReverseFolding l) (ok_ReverseFolding l)) := by
  unfold res_ReverseFolding ok_ReverseFolding
  have HP := Lib.hid (spStack_any u l w h)
  cases hg : stackB l with
  | true =>
    rw [hg] at HP
    simp only [if_true]
    rw [revF_eq]
    have h8 := stack_len hg
    have h1 := (stack_facts hg).1
    have hsn := rev_snoc l
    obtain ⟨bb, off, c, rfl, hlc, hcm, hcell⟩ := h.at h1
    obtain ⟨n, hn⟩ : ∃ n, n = l.length := ⟨_, rfl⟩
    rw [← hn] at hlc hcell h8 h1 hsn HP ⊢
    unfold maxLen at hcm
    have HC := Lib.hid hcell; have HSN := Lib.hid hsn; have HN := Lib.hid hn
    clear hn hcell hsn hg h m
    go_enter Try.func24, Try.ntmps24
    go_wp2_with (go_at_call 34; refine HP.out.mono ?_; rintro e w1 ⟨rfl, rfl⟩)
    go_loopw [4, 5] (fun o i wr => ∃ k : Nat, k ≤ n ∧ i = .int .i64 ((n : Int) - 1 - (k : Int)) ∧ Own w.heap.size wr o (l.reverse.take k) ∧ Below w.heap.size w wr) (fun _ i _ => (intOf i + 1).toNat)
    case atStart => exact ⟨0, by omega, by go_num, Own.nil _ _, Below.refl _ _⟩
    case round =>
      obtain ⟨k, hk, rfl, hown, hbel⟩ := hrel
      have hsz := hbel.size
      by_cases hlt : k < n
      · obtain ⟨j, hj⟩ : ∃ j : Nat, (n : Int) - 1 - (k : Int) = (j : Int) := ⟨n - 1 - k, by omega⟩
        have hjn : j < n := by omega
        have hsrc : wr.cell? ⟨bb, off + j, none⟩ = some (.int .i64 (l.getD j 0)) := by
          have := HC.out j hjn
          exact (hbel.cell (p := ⟨bb, off + j, none⟩) (World.block_lt_of_cell? w _ this)).trans this
        have hsn := HSN.out k hlt
        rw [show n - 1 - k = j by omega] at hsn
        have HL : Hid ((l.reverse.take k).length ≤ 8) := by show _ ≤ 8; rw [List.length_take, List.length_reverse]; omega
        generalize l.getD j 0 = x at hsrc hsn
        have HS := Lib.hid hsn
        have HJ := Lib.hid hj
        have hk2 : (k : Int) + (j : Int) + 1 = (n : Int) := by omega
        have HK2 := Lib.hid hk2
        rw [hj]
        clear hsn hj hk2
        go_wp2_with (at_builtin; refine wp_append _ rfl _ _ rfl w.heap.size _ _ (l.reverse.take k) [x] rfl rfl (Own.below hown (Below.alloc1 _ _)) (Own.rd (Own.lit1 _ _ _ (Nat.le_refl _))) (by have := HL.out; simp only [List.length_cons, List.length_nil]; omega) (by simp; omega) ?_; intro v' w1 hown1 hgr hbel1; rw [← HS.out] at hown1; have hbel2 := (hbel.alloc hsz _).trans hbel1; clear hown hgr hbel1 hbel)
        go_roundw
        case rel => exact ⟨k + 1, by omega, by have := HK2.out; congr 1; omega, hown1, hbel2⟩
        case measure => first | (simp [intOf]; done) | (simp [intOf]; omega)
      · obtain rfl : k = n := by omega
        go_wp2
        go_ret2
        rw [List.take_of_length_le (by rw [List.length_reverse]; exact Nat.le_of_eq HN.out.symm)] at hown
        exact ⟨_, rfl, hown, hbel⟩
  | false =>
    rw [hg] at HP
    simp only [Bool.false_eq_true, if_false]
    clear hg h
    go_enter Try.func24, Try.ntmps24
    go_wp2_with (go_at_call 34; refine HP.out.mono ?_; rintro e w1 ⟨rfl, rfl⟩)
    go_ret2
    exact ⟨_, rfl, Own.nil _ _, Below.refl _ _⟩

theorem ren_snoc (l : List Int) (k : Nat) (h : k < l.length) : (renF l).take (k + 1) = (renF l).take k ++ [(l.length : Int) - 1 - l.getD k 0] := by
  unfold renF
  rw [List.take_succ_eq_append_getElem (by simpa using h)]
  congr 2
  simp [List.getD, h]

set_option maxHeartbeats 1000000 in
theorem spec_RenumberFolding (l : List Int) (w : World) (u : Value) (h : Rd w u l) (m : l.length ≤ 1048576) : Calls Try.prog 26 #[u] w (Gives w (res_RenumberFolding l) (ok_RenumberFolding l)) := by
  unfold res_RenumberFolding ok_RenumberFolding
  have HP := Lib.hid (spStack_any u l w h)
  cases hg : stackB l with
  | true =>
    rw [hg] at HP
    simp only [if_true]
    have h8 := stack_len hg
    have h1 := (stack_facts hg).1
    have hr := (stack_facts hg).2.2.1
    have hsn := ren_snoc l
    have hrl := renF_length l
    obtain ⟨bb, off, c, rfl, hlc, hcm, hcell⟩ := h.at h1
    obtain ⟨n, hn⟩ : ∃ n, n = l.length := ⟨_, rfl⟩
    rw [← hn] at hlc hcell h8 h1 hsn HP hr hrl ⊢
    unfold maxLen at hcm
    have HC := Lib.hid hcell; have HSN := Lib.hid hsn; have HR := Lib.hid hr; have HRL := Lib.hid hrl
    clear hn hcell hsn hg h m hr hrl
    go_enter Try.func26, Try.ntmps26
    go_wp2_with (go_at_call 34; refine HP.out.mono ?_; rintro e w1 ⟨rfl, rfl⟩)
    go_loopw [4, 12] (fun o i wr => ∃ k : Nat, k ≤ n ∧ i = .int .i64 (k : Int) ∧ Own w.heap.size wr o ((renF l).take k) ∧ Below w.heap.size w wr) (fun _ i _ => n - (intOf i).toNat)
    case atStart => exact ⟨0, by omega, by go_num, Own.nil _ _, Below.refl _ _⟩
    case round =>
      obtain ⟨k, hk, rfl, hown, hbel⟩ := hrel
      have hsz := hbel.size
      by_cases hlt : k < n
      · have hsrc : wr.cell? ⟨bb, off + k, none⟩ = some (.int .i64 (l.getD k 0)) := by
          have := HC.out k hlt
          exact (hbel.cell (p := ⟨bb, off + k, none⟩) (World.block_lt_of_cell? w _ this)).trans this
        have hsn := HSN.out k hlt
        have hx := HR.out k hlt
        have HL : Hid (((renF l).take k).length ≤ 8) := by show _ ≤ 8; rw [List.length_take, HRL.out]; omega
        generalize l.getD k 0 = x at hsrc hsn hx
        have HS := Lib.hid hsn
        clear hsn
        go_wp2_with (at_builtin; refine wp_append _ rfl _ _ rfl w.heap.size _ _ ((renF l).take k) [(n : Int) - 1 - x] rfl rfl (Own.below hown (Below.alloc1 _ _)) (Own.rd (Own.lit1 _ _ _ (Nat.le_refl _))) (by have := HL.out; simp only [List.length_cons, List.length_nil]; omega) (by simp; omega) ?_; intro v' w1 hown1 hgr hbel1; rw [← HS.out] at hown1; have hbel2 := (hbel.alloc hsz _).trans hbel1; clear hown hgr hbel1 hbel)
        go_roundw
        case rel => exact ⟨k + 1, by omega, by go_num, hown1, hbel2⟩
        case measure => first | (simp [intOf]; done) | (simp [intOf]; omega)
      · obtain rfl : k = n := by omega
        go_wp2
        go_ret2
        rw [List.take_of_length_le (by rw [HRL.out]; exact Nat.le_refl _)] at hown
        exact ⟨_, rfl, hown, hbel⟩
  | false =>
    rw [hg] at HP
    simp only [Bool.false_eq_true, if_false]
    clear hg h
    go_enter Try.func26, Try.ntmps26
    go_wp2_with (go_at_call 34; refine HP.out.mono ?_; rintro e w1 ⟨rfl, rfl⟩)
    go_ret2
    exact ⟨_, rfl, Own.nil _ _, Below.refl _ _⟩

end Go.Proofs.Ytodbjkfikbkkbaa
