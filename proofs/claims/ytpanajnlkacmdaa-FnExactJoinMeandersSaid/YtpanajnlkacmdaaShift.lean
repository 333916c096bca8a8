/- Lists with a number added to each; copies. -/
import Derived.Test.YtpanajnlkacmdaaSlice
import Derived.Test.YtpanajnlkacmdaaGood
namespace Go.Proofs.Ytpanajnlkacmdaa
open Go.RowKit
set_option linter.unusedSimpArgs false
set_option linter.unusedVariables false

def shiftL (l : List Int) (b : Int) : List Int := l.map (· + b)
theorem shiftL_length (l : List Int) (b : Int) : (shiftL l b).length = l.length := by simp [shiftL]
theorem shift_snoc (l : List Int) (b : Int) (k : Nat) (h : k < l.length) : shiftL (l.take (k + 1)) b = shiftL (l.take k) b ++ [l.getD k 0 + b] := by
  unfold shiftL
  rw [List.take_succ_eq_append_getElem h, List.map_append]
  simp [List.getD, h]

/-- what an empty slice that is not nil owns -/
theorem Own.lit0 (B : Nat) (w : World) (hB : B ≤ w.heap.size) : Own B (w.alloc (.cells #[] 3)) (.slice (some ⟨w.heap.size, 0, none⟩) 0 0) [] :=
  World.ownsRow_lit w #[] 0 hB (by unfold maxLen; omega) rfl

set_option maxHeartbeats 1000000 in
theorem ahShift_any (v : Value) (l : List Int) (b : Int) (w : World) (h : Rd w v l) (hl : l.length ≤ 12) (hr : ∀ k, k < l.length → 0 ≤ l.getD k 0 ∧ l.getD k 0 ≤ 100) (hb0 : 0 ≤ b) (hb1 : b ≤ 100) :
    Calls Try.prog 71 #[v, .int .i64 b] w (Made w (shiftL l b)) := by
  obtain ⟨a, c, rfl, hlc, hcm, hnc, hrd⟩ := h
  obtain ⟨n, hn⟩ : ∃ n, n = l.length := ⟨_, rfl⟩
  rw [← hn] at hlc hl hr hrd ⊢
  unfold maxLen at hcm
  have HN := Lib.hid hn; have HR := Lib.hid hr; have HC := Lib.hid hrd
  clear hn hr hrd hnc
  go_enter Try.func71, Try.ntmps71
  go_wp2
  go_loopw [5, 10] (fun o i wr => ∃ k : Nat, k ≤ n ∧ i = .int .i64 k ∧ Own w.heap.size wr o (shiftL (l.take k) b) ∧ Below w.heap.size w wr) (fun _ i _ => n - (intOf i).toNat)
  case atStart => exact ⟨0, by omega, rfl, Own.nil _ _, Below.refl _ _⟩
  case round =>
    obtain ⟨k, hk, rfl, hown, hbel⟩ := hrel
    have hsz := hbel.size
    by_cases hlt : k < n
    · rcases HC.out with h0 | ⟨bb, off, rfl, hcell⟩
      · exfalso; rw [HN.out, h0] at hlt; simp at hlt
      have hsrc : wr.cell? ⟨bb, off + k, none⟩ = some (.int .i64 (l.getD k 0)) := by
        have := hcell k hlt
        exact (hbel.cell (p := ⟨bb, off + k, none⟩) (World.block_lt_of_cell? w _ this)).trans this
      have hx := HR.out k hlt
      have hsn := shift_snoc l b k (by rw [← HN.out]; exact hlt)
      have HL : Hid ((shiftL (l.take k) b).length ≤ 12) := by show (shiftL (l.take k) b).length ≤ 12; rw [shiftL_length, List.length_take]; omega
      generalize l.getD k 0 = x at hsrc hx hsn
      have HSN := Lib.hid hsn; clear hsn hcell
      go_wp2_with (at_builtin; refine wp_append _ rfl _ _ rfl w.heap.size _ _ (shiftL (l.take k) b) [x + b] rfl rfl (Own.below hown (Below.alloc1 _ _)) (Own.rd (Own.lit1 _ _ _ (Nat.le_refl _))) (by have := HL.out; simp; omega) (by simp; omega) ?_; intro v' w1 hown1 hgr hbel1; rw [← HSN.out] at hown1; have hbel2 := (hbel.alloc hsz _).trans hbel1; clear hown hgr hbel1 hbel)
      go_roundw
      case rel => exact ⟨k + 1, by omega, by go_num, hown1, hbel2⟩
      case measure => simp [intOf]; omega
    · obtain rfl : k = n := by omega
      go_wp2
      go_ret
      refine ⟨_, rfl, ?_, hbel⟩
      rw [HN.out, List.take_length] at hown
      exact hown

set_option maxHeartbeats 1000000 in
theorem l1Own_any (v : Value) (l : List Int) (w : World) (h : Rd w v l) (hl : l.length ≤ 1000000) : Calls Try.prog 70 #[v] w (Made w l) := by
  have HR := Lib.hid h; have HL := Lib.hid hl; clear h hl
  go_enter Try.func70, Try.ntmps70
  go_wp2_with (at_builtin; refine wp_append _ rfl _ _ rfl w.heap.size _ v [] l rfl rfl (Own.lit0 _ _ (Nat.le_refl _)) (Rd.below HR.out (Below.alloc1 _ _)) (by have := HL.out; simp; omega) (by simp) ?_; intro v' w1 hown1 hgr hbel1)
  go_ret
  exact ⟨_, rfl, hown1, (Below.alloc1 _ _).trans hbel1⟩

end Go.Proofs.Ytpanajnlkacmdaa
