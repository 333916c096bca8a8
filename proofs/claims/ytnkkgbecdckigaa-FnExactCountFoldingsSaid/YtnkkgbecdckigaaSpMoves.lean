/- TurnFolding, ReverseFolding, RenumberFolding in the model. -/
import Derived.Test.YtnkkgbecdckigaaFoldMoves
import Derived.Test.YtnkkgbecdckigaaStkSpec
namespace Go.Proofs.Ytnkkgbecdckigaa
open Go.RowKit
set_option linter.unusedSimpArgs false
set_option linter.unusedVariables false

theorem shiftTo_run (b n i : Int) (hn : 0 < n) (hn1 : n ≤ 12) : (wrap64 ((i + b).tmod n + n)).tmod n = shiftTo b n i := by
  have h1 := Int.tmod_lt_of_pos (i + b) hn
  have h2 := Int.lt_tmod_of_pos (i + b) hn
  rw [IntWalk.wrap64_in _ (by omega)]
  rfl

set_option maxHeartbeats 2000000 in
theorem spTurn_any (l : List Int) (b : Int) (w : World) (u : Value) (h : Rd w u l) (hs : stackB l = true) (hb0 : -100 ≤ b) (hb1 : b ≤ 100) :
    Calls Try.prog 46 #[u, .int .i64 b] w (Made w (turnF l b)) := by
  have h8 := stack_len hs
  have h1 := (stack_facts hs).1
  have hml := movedL_length (shiftTo b (l.length : Int)) l
  obtain ⟨bb, off, c, rfl, hlc, hcm, hcell⟩ := h.at h1
  unfold turnF
  obtain ⟨n, hn⟩ : ∃ n, n = l.length := ⟨_, rfl⟩
  rw [← hn] at hlc hcell h8 h1 hml ⊢
  unfold maxLen at hcm
  have hz : List.replicate n (0 : Int) = movedL (shiftTo b (n : Int)) l 0 := by rw [hn]; rfl
  have HZ := Lib.hid hz; have HC := Lib.hid hcell; have HML := Lib.hid hml
  clear hn hcell hs hz hml h
  go_enter Try.func46, Try.ntmps46
  go_wp2_with (at_make; refine wp_make w rfl _ _ rfl n _ _ rfl rfl rfl rfl (by omega) ?_; intro w2 hown hbel hsz; rw [HZ.out] at hown)
  go_loopw [15] (fun i wr => ∃ k : Nat, k ≤ n ∧ i = .int .i64 k ∧ Own w.heap.size wr (.slice (some ⟨w.heap.size, 0, none⟩) n n) (movedL (shiftTo b (n : Int)) l k) ∧ Below w.heap.size w wr) (fun i _ => n - (intOf i).toNat)
  case atStart => exact ⟨0, by omega, rfl, hown, hbel⟩
  case round =>
    clear hown hbel hsz
    obtain ⟨k, hk, rfl, hown, hbel⟩ := hrel
    by_cases hlt : k < n
    · have hsrc : wr.cell? ⟨bb, off + k, none⟩ = some (.int .i64 (l.getD k 0)) := by
        have := HC.out k hlt
        exact (hbel.cell (p := ⟨bb, off + k, none⟩) (World.block_lt_of_cell? w _ this)).trans this
      have hin := shiftTo_in b n k (by omega)
      have e1 := shiftTo_run b n k (by omega) (by omega)
      have hnext : movedL (shiftTo b (n : Int)) l (k + 1) = (movedL (shiftTo b (n : Int)) l k).set (shiftTo b n k).toNat (l.getD k 0) := rfl
      obtain ⟨j, hj⟩ := Int.eq_ofNat_of_zero_le hin.1
      rw [hj] at e1 hnext hin
      rw [Int.toNat_natCast] at hnext
      generalize l.getD k 0 = x at hsrc hnext
      have hjn : j < n := by omega
      have hdst := hown.cellAt j (by rw [HML.out]; omega)
      have hfr := hown.frozenAt j
      have hnew := hown.stored j x
      rw [← hnext] at hnew
      have HW := Lib.hid hnew
      have HB := Lib.hid (hbel.setCell (p := ⟨w.heap.size, j, none⟩) (Nat.le_refl _) (.int .i64 x))
      clear hnew hown hbel hnext hj hin
      generalize (movedL (shiftTo b (n : Int)) l k).getD j 0 = z at hdst
      go_wp2
      go_roundw
      case rel => exact ⟨k + 1, by omega, by go_num, HW.out, HB.out⟩
      case measure => first | (simp [intOf]; done) | (simp [intOf]; omega)
    · obtain rfl : k = n := by omega
      go_wp2
      go_ret
      exact ⟨_, rfl, hown, hbel⟩


theorem revK (l : List Int) : ∀ k, k ≤ l.length → movedL (fun i => (l.length : Int) - 1 - i) l k = List.replicate (l.length - k) 0 ++ (l.take k).reverse
  | 0, _ => by simp [movedL]
  | k + 1, h => by
    rw [movedL, revK l k (by omega)]
    have e : ((l.length : Int) - 1 - (k : Int)).toNat = l.length - (k + 1) := by omega
    simp only [e]
    rw [show l.length - k = (l.length - (k + 1)) + 1 by omega, List.replicate_succ', List.append_assoc, List.set_append_right _ _ (by simp)]
    rw [List.take_succ_eq_append_getElem (by omega), List.reverse_append]
    simp [List.getD, show k < l.length by omega]
theorem revF_eq (l : List Int) : revF l = l.reverse := by
  unfold revF
  rw [revK l _ (Nat.le_refl _)]
  simp
theorem rev_snoc (l : List Int) (k : Nat) (h : k < l.length) : l.reverse.take (k + 1) = l.reverse.take k ++ [l.getD (l.length - 1 - k) 0] := by
  rw [List.take_succ_eq_append_getElem (by simpa using h)]
  congr 2
  rw [List.getElem_reverse]
  simp [List.getD, show l.length - 1 - k < l.length by omega]


theorem ren_snoc (l : List Int) (k : Nat) (h : k < l.length) : (renF l).take (k + 1) = (renF l).take k ++ [(l.length : Int) - 1 - l.getD k 0] := by
  unfold renF
  rw [List.take_succ_eq_append_getElem (by simpa using h)]
  congr 2
  simp [List.getD, h]


end Go.Proofs.Ytnkkgbecdckigaa
