/- The cells of a system, one by one. -/
import Derived.Test.YtnkkgbecdckigaaSys
import Derived.Test.YtnkkgbecdckigaaSlice
namespace Go.Proofs.Ytnkkgbecdckigaa
open Go.RowKit
set_option linter.unusedSimpArgs false
set_option linter.unusedVariables false

/-- the cells of a system, one by one -/
def sysV (l : List Int) (i : Nat) : Value := if i < 12 then .int .i64 (l.getD i 0) else .int .i64 l.length
theorem sysC_lit {l : List Int} (h : l.length ≤ 12) : sysC l = #[sysV l 0, sysV l 1, sysV l 2, sysV l 3, sysV l 4, sysV l 5, sysV l 6, sysV l 7, sysV l 8, sysV l 9, sysV l 10, sysV l 11, sysV l 12] := by
  refine Array.ext (by rw [sysC_size h]; rfl) fun i h1 h2 => ?_
  have hi : i < 13 := by rw [sysC_size h] at h1; exact h1
  have e : (sysC l)[i]? = some (sysV l i) := by
    unfold sysV
    split
    · next h3 => exact sysC_get h i h3
    · obtain rfl : i = 12 := by omega
      exact sysC_last h
  rw [Array.getElem?_eq_getElem h1] at e
  have e2 : i = 0 ∨ i = 1 ∨ i = 2 ∨ i = 3 ∨ i = 4 ∨ i = 5 ∨ i = 6 ∨ i = 7 ∨ i = 8 ∨ i = 9 ∨ i = 10 ∨ i = 11 ∨ i = 12 := by omega
  rcases e2 with rfl | rfl | rfl | rfl | rfl | rfl | rfl | rfl | rfl | rfl | rfl | rfl | rfl <;> simpa using e
theorem sys_cell {w : World} {b : Nat} {l : List Int} (hl : l.length ≤ 12) (h : SysIn w b l) (i : Nat) (hi : i < 13) : w.cell? ⟨b, i, none⟩ = some (sysV l i) := by
  unfold sysV
  split
  · next h3 => exact h.cell hl i h3
  · obtain rfl : i = 12 := by omega
    exact h.size hl

theorem next_cells {w0 w : World} {b n : Nat} {l : List Int} (hn : sysV l 12 = .int .i64 (n : Int)) (hl : l.length ≤ 12) (h : SysIn w b l) (hb : Below w0.heap.size w0 w) : Hid (SysIn w b l ∧ Below w0.heap.size w0 w) ∧ w.cell? ⟨b, 0, none⟩ = some (sysV l 0) ∧ w.cell? ⟨b, 1, none⟩ = some (sysV l 1) ∧ w.cell? ⟨b, 2, none⟩ = some (sysV l 2) ∧ w.cell? ⟨b, 3, none⟩ = some (sysV l 3) ∧ w.cell? ⟨b, 4, none⟩ = some (sysV l 4) ∧ w.cell? ⟨b, 5, none⟩ = some (sysV l 5) ∧ w.cell? ⟨b, 6, none⟩ = some (sysV l 6) ∧ w.cell? ⟨b, 7, none⟩ = some (sysV l 7) ∧ w.cell? ⟨b, 8, none⟩ = some (sysV l 8) ∧ w.cell? ⟨b, 9, none⟩ = some (sysV l 9) ∧ w.cell? ⟨b, 10, none⟩ = some (sysV l 10) ∧ w.cell? ⟨b, 11, none⟩ = some (sysV l 11) ∧ w.cell? ⟨b, 12, none⟩ = some (.int .i64 (n : Int)) :=
  ⟨⟨h, hb⟩, sys_cell hl h 0 (by omega), sys_cell hl h 1 (by omega), sys_cell hl h 2 (by omega), sys_cell hl h 3 (by omega), sys_cell hl h 4 (by omega), sys_cell hl h 5 (by omega), sys_cell hl h 6 (by omega), sys_cell hl h 7 (by omega), sys_cell hl h 8 (by omega), sys_cell hl h 9 (by omega), sys_cell hl h 10 (by omega), sys_cell hl h 11 (by omega), by rw [← hn]; exact sys_cell hl h 12 (by omega)⟩
theorem next_out {w0 w1 : World} {b n : Nat} {l : List Int} (h : Hid (SysIn w1 b l ∧ Below w0.heap.size w0 w1) ∧ w1.cell? ⟨b, 0, none⟩ = some (sysV l 0) ∧ w1.cell? ⟨b, 1, none⟩ = some (sysV l 1) ∧ w1.cell? ⟨b, 2, none⟩ = some (sysV l 2) ∧ w1.cell? ⟨b, 3, none⟩ = some (sysV l 3) ∧ w1.cell? ⟨b, 4, none⟩ = some (sysV l 4) ∧ w1.cell? ⟨b, 5, none⟩ = some (sysV l 5) ∧ w1.cell? ⟨b, 6, none⟩ = some (sysV l 6) ∧ w1.cell? ⟨b, 7, none⟩ = some (sysV l 7) ∧ w1.cell? ⟨b, 8, none⟩ = some (sysV l 8) ∧ w1.cell? ⟨b, 9, none⟩ = some (sysV l 9) ∧ w1.cell? ⟨b, 10, none⟩ = some (sysV l 10) ∧ w1.cell? ⟨b, 11, none⟩ = some (sysV l 11) ∧ w1.cell? ⟨b, 12, none⟩ = some (.int .i64 (n : Int))) : Below w0.heap.size w0 w1 := h.1.out.2
theorem next_keep {w0 w1 w2 : World} {b n : Nat} {l : List Int} (hn : sysV l 12 = .int .i64 (n : Int)) (hl : l.length ≤ 12) (h : Hid (SysIn w1 b l ∧ Below w0.heap.size w0 w1) ∧ w1.cell? ⟨b, 0, none⟩ = some (sysV l 0) ∧ w1.cell? ⟨b, 1, none⟩ = some (sysV l 1) ∧ w1.cell? ⟨b, 2, none⟩ = some (sysV l 2) ∧ w1.cell? ⟨b, 3, none⟩ = some (sysV l 3) ∧ w1.cell? ⟨b, 4, none⟩ = some (sysV l 4) ∧ w1.cell? ⟨b, 5, none⟩ = some (sysV l 5) ∧ w1.cell? ⟨b, 6, none⟩ = some (sysV l 6) ∧ w1.cell? ⟨b, 7, none⟩ = some (sysV l 7) ∧ w1.cell? ⟨b, 8, none⟩ = some (sysV l 8) ∧ w1.cell? ⟨b, 9, none⟩ = some (sysV l 9) ∧ w1.cell? ⟨b, 10, none⟩ = some (sysV l 10) ∧ w1.cell? ⟨b, 11, none⟩ = some (sysV l 11) ∧ w1.cell? ⟨b, 12, none⟩ = some (.int .i64 (n : Int))) (hb : Below w1.heap.size w1 w2) :
    Hid (SysIn w2 b l ∧ Below w0.heap.size w0 w2) ∧ w2.cell? ⟨b, 0, none⟩ = some (sysV l 0) ∧ w2.cell? ⟨b, 1, none⟩ = some (sysV l 1) ∧ w2.cell? ⟨b, 2, none⟩ = some (sysV l 2) ∧ w2.cell? ⟨b, 3, none⟩ = some (sysV l 3) ∧ w2.cell? ⟨b, 4, none⟩ = some (sysV l 4) ∧ w2.cell? ⟨b, 5, none⟩ = some (sysV l 5) ∧ w2.cell? ⟨b, 6, none⟩ = some (sysV l 6) ∧ w2.cell? ⟨b, 7, none⟩ = some (sysV l 7) ∧ w2.cell? ⟨b, 8, none⟩ = some (sysV l 8) ∧ w2.cell? ⟨b, 9, none⟩ = some (sysV l 9) ∧ w2.cell? ⟨b, 10, none⟩ = some (sysV l 10) ∧ w2.cell? ⟨b, 11, none⟩ = some (sysV l 11) ∧ w2.cell? ⟨b, 12, none⟩ = some (.int .i64 (n : Int)) := next_cells hn hl (h.1.out.1.below hb) (Below.step h.1.out.2 hb)

end Go.Proofs.Ytnkkgbecdckigaa
