/- The cells of a stack, one by one. -/
import Derived.Test.YtodbjkfikbkkbabStk
import Derived.Test.YtodbjkfikbkkbabSlice
namespace Go.Proofs.Ytodbjkfikbkkbab
open Go.RowKit
set_option linter.unusedSimpArgs false
set_option linter.unusedVariables false

/-- the cells of a stack, one by one -/
def stkV (l : List Int) (i : Nat) : Value := if i < 8 then .int .i64 (l.getD i 0) else .int .i64 l.length
theorem stkC_lit {l : List Int} (h : l.length ≤ 8) : stkC l = #[stkV l 0, stkV l 1, stkV l 2, stkV l 3, stkV l 4, stkV l 5, stkV l 6, stkV l 7, stkV l 8] := by
  refine Array.ext (by rw [stkC_size h]; rfl) fun i h1 h2 => ?_
  have hi : i < 9 := by rw [stkC_size h] at h1; exact h1
  have e : (stkC l)[i]? = some (stkV l i) := by
    unfold stkV
    split
    · next h3 => exact stkC_get h i h3
    · obtain rfl : i = 8 := by omega
      exact stkC_last h
  rw [Array.getElem?_eq_getElem h1] at e
  have e2 : i = 0 ∨ i = 1 ∨ i = 2 ∨ i = 3 ∨ i = 4 ∨ i = 5 ∨ i = 6 ∨ i = 7 ∨ i = 8 := by omega
  rcases e2 with rfl | rfl | rfl | rfl | rfl | rfl | rfl | rfl | rfl <;> simpa using e
theorem stk_cell {w : World} {b : Nat} {l : List Int} (hl : l.length ≤ 8) (h : StkIn w b l) (i : Nat) (hi : i < 9) : w.cell? ⟨b, i, none⟩ = some (stkV l i) := by
  unfold stkV
  split
  · next h3 => exact h.cell hl i h3
  · obtain rfl : i = 8 := by omega
    exact h.size hl

end Go.Proofs.Ytodbjkfikbkkbab
