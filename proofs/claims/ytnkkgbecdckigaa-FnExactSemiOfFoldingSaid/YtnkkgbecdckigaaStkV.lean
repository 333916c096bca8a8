/- The cells of a stack, one by one. -/
import Derived.Test.YtnkkgbecdckigaaStk
import Derived.Test.YtnkkgbecdckigaaSlice
namespace Go.Proofs.Ytnkkgbecdckigaa
open Go.RowKit
set_option linter.unusedSimpArgs false
set_option linter.unusedVariables false

/-- the cells of a stack, one by one -/
def stkV (l : List Int) (i : Nat) : Value := if i < 8 then .int .i64 (l.getD i 0) else .int .i64 l.length
theorem stkC_lit {l : List Int} (h : l.length ≤ 8) : stkC l = #[stkV l 0, stkV l 1, stkV l 2, stkV l 3, stkV l 4, stkV l 5, stkV l 6, stkV l 7, stkV l 8] := by
  refine Array.ext (by rw [stkC_size h]; rfl) fun i h1 h2 => ?_
  have hi : i < 9 := by rw [stkC_size h] at h1; exact h1
  have e : (stkC l)[i]? = some (stkV l i) := by
    unfold stkV
    split
    · next h3 => exact stkC_get h i h3
    · obtain rfl : i = 8 := by omega
      exact stkC_last h
  rw [Array.getElem?_eq_getElem h1] at e
  have e2 : i = 0 ∨ i = 1 ∨ i = 2 ∨ i = 3 ∨ i = 4 ∨ i = 5 ∨ i = 6 ∨ i = 7 ∨ i = 8 := by omega
  rcases e2 with rfl | rfl | rfl | rfl | rfl | rfl | rfl | rfl | rfl <;> simpa using e
theorem stk_cell {w : World} {b : Nat} {l : List Int} (hl : l.length ≤ 8) (h : StkIn w b l) (i : Nat) (hi : i < 9) : w.cell? ⟨b, i, none⟩ = some (stkV l i) := by
  unfold stkV
  split
  · next h3 => exact h.cell hl i h3
  · obtain rfl : i = 8 := by omega
    exact h.size hl

theorem nextK_cells {w0 w : World} {b n : Nat} {l : List Int} (hn : stkV l 8 = .int .i64 (n : Int)) (hl : l.length ≤ 8) (h : StkIn w b l) (hb : Below w0.heap.size w0 w) : Hid (StkIn w b l ∧ Below w0.heap.size w0 w) ∧ w.cell? ⟨b, 0, none⟩ = some (stkV l 0) ∧ w.cell? ⟨b, 1, none⟩ = some (stkV l 1) ∧ w.cell? ⟨b, 2, none⟩ = some (stkV l 2) ∧ w.cell? ⟨b, 3, none⟩ = some (stkV l 3) ∧ w.cell? ⟨b, 4, none⟩ = some (stkV l 4) ∧ w.cell? ⟨b, 5, none⟩ = some (stkV l 5) ∧ w.cell? ⟨b, 6, none⟩ = some (stkV l 6) ∧ w.cell? ⟨b, 7, none⟩ = some (stkV l 7) ∧ w.cell? ⟨b, 8, none⟩ = some (.int .i64 (n : Int)) :=
  ⟨⟨h, hb⟩, stk_cell hl h 0 (by omega), stk_cell hl h 1 (by omega), stk_cell hl h 2 (by omega), stk_cell hl h 3 (by omega), stk_cell hl h 4 (by omega), stk_cell hl h 5 (by omega), stk_cell hl h 6 (by omega), stk_cell hl h 7 (by omega), by rw [← hn]; exact stk_cell hl h 8 (by omega)⟩
theorem nextK_out {w0 w1 : World} {b n : Nat} {l : List Int} (h : Hid (StkIn w1 b l ∧ Below w0.heap.size w0 w1) ∧ w1.cell? ⟨b, 0, none⟩ = some (stkV l 0) ∧ w1.cell? ⟨b, 1, none⟩ = some (stkV l 1) ∧ w1.cell? ⟨b, 2, none⟩ = some (stkV l 2) ∧ w1.cell? ⟨b, 3, none⟩ = some (stkV l 3) ∧ w1.cell? ⟨b, 4, none⟩ = some (stkV l 4) ∧ w1.cell? ⟨b, 5, none⟩ = some (stkV l 5) ∧ w1.cell? ⟨b, 6, none⟩ = some (stkV l 6) ∧ w1.cell? ⟨b, 7, none⟩ = some (stkV l 7) ∧ w1.cell? ⟨b, 8, none⟩ = some (.int .i64 (n : Int))) : Below w0.heap.size w0 w1 := h.1.out.2
theorem nextK_keep {w0 w1 w2 : World} {b n : Nat} {l : List Int} (hn : stkV l 8 = .int .i64 (n : Int)) (hl : l.length ≤ 8) (h : Hid (StkIn w1 b l ∧ Below w0.heap.size w0 w1) ∧ w1.cell? ⟨b, 0, none⟩ = some (stkV l 0) ∧ w1.cell? ⟨b, 1, none⟩ = some (stkV l 1) ∧ w1.cell? ⟨b, 2, none⟩ = some (stkV l 2) ∧ w1.cell? ⟨b, 3, none⟩ = some (stkV l 3) ∧ w1.cell? ⟨b, 4, none⟩ = some (stkV l 4) ∧ w1.cell? ⟨b, 5, none⟩ = some (stkV l 5) ∧ w1.cell? ⟨b, 6, none⟩ = some (stkV l 6) ∧ w1.cell? ⟨b, 7, none⟩ = some (stkV l 7) ∧ w1.cell? ⟨b, 8, none⟩ = some (.int .i64 (n : Int))) (hb : Below w1.heap.size w1 w2) :
    Hid (StkIn w2 b l ∧ Below w0.heap.size w0 w2) ∧ w2.cell? ⟨b, 0, none⟩ = some (stkV l 0) ∧ w2.cell? ⟨b, 1, none⟩ = some (stkV l 1) ∧ w2.cell? ⟨b, 2, none⟩ = some (stkV l 2) ∧ w2.cell? ⟨b, 3, none⟩ = some (stkV l 3) ∧ w2.cell? ⟨b, 4, none⟩ = some (stkV l 4) ∧ w2.cell? ⟨b, 5, none⟩ = some (stkV l 5) ∧ w2.cell? ⟨b, 6, none⟩ = some (stkV l 6) ∧ w2.cell? ⟨b, 7, none⟩ = some (stkV l 7) ∧ w2.cell? ⟨b, 8, none⟩ = some (.int .i64 (n : Int)) := nextK_cells hn hl (h.1.out.1.below hb) (Below.step h.1.out.2 hb)

end Go.Proofs.Ytnkkgbecdckigaa
