/- The cells of a system, one by one. -/
import Derived.Test.YtpanajnlkacmdabSys
namespace Go.Proofs.Ytpanajnlkacmdab
open Go.RowKit
set_option linter.unusedSimpArgs false
set_option linter.unusedVariables false

/-- the cells of a system, one by one -/
def sysV (l : List Int) (i : Nat) : Value := if i < 12 then .int .i64 (l.getD i 0) else .int .i64 l.length
theorem sysC_lit {l : List Int} (h : l.length ≤ 12) : sysC l = #[sysV l 0, sysV l 1, sysV l 2, sysV l 3, sysV l 4, sysV l 5, sysV l 6, sysV l 7, sysV l 8, sysV l 9, sysV l 10, sysV l 11, sysV l 12] := by
  refine Array.ext (by rw [sysC_size h]; rfl) fun i h1 h2 => ?_
  have hi : i < 13 := by rw [sysC_size h] at h1; exact h1
  have e : (sysC l)[i]? = some (sysV l i) := by
    unfold sysV
    split
    · next h3 => exact sysC_get h i h3
    · obtain rfl : i = 12 := by omega
      exact sysC_last h
  rw [Array.getElem?_eq_getElem h1] at e
  have e2 : i = 0 ∨ i = 1 ∨ i = 2 ∨ i = 3 ∨ i = 4 ∨ i = 5 ∨ i = 6 ∨ i = 7 ∨ i = 8 ∨ i = 9 ∨ i = 10 ∨ i = 11 ∨ i = 12 := by omega
  rcases e2 with rfl | rfl | rfl | rfl | rfl | rfl | rfl | rfl | rfl | rfl | rfl | rfl | rfl <;> simpa using e
theorem sys_cell {w : World} {b : Nat} {l : List Int} (hl : l.length ≤ 12) (h : SysIn w b l) (i : Nat) (hi : i < 13) : w.cell? ⟨b, i, none⟩ = some (sysV l i) := by
  unfold sysV
  split
  · next h3 => exact h.cell hl i h3
  · obtain rfl : i = 12 := by omega
    exact h.size hl

end Go.Proofs.Ytpanajnlkacmdab
