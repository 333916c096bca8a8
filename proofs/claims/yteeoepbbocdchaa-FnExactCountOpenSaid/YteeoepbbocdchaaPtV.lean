/- The cells of points, one by one; regions that draw their order and call what makes memory. -/
import Derived.Test.YteeoepbbocdchaaWdRun
import Derived.Test.YteeoepbbocdchaaSpan
import Derived.IntWalk
namespace Go.Proofs.Yteeoepbbocdchaa
open Go.RowKit
set_option linter.unusedSimpArgs false
set_option linter.unusedVariables false

/-- the cells of points, one by one -/
def ptV (l : List Int) (i : Nat) : Value := if i < 12 then .int .i64 (l.getD i 0) else .int .i64 l.length
theorem ptC_lit {l : List Int} (h : l.length ≤ 12) : ptC l = #[ptV l 0, ptV l 1, ptV l 2, ptV l 3, ptV l 4, ptV l 5, ptV l 6, ptV l 7, ptV l 8, ptV l 9, ptV l 10, ptV l 11, ptV l 12] := by
  refine Array.ext (by rw [ptC_size h]; rfl) fun i h1 h2 => ?_
  have hi : i < 13 := by rw [ptC_size h] at h1; exact h1
  have e : (ptC l)[i]? = some (ptV l i) := by
    unfold ptV
    split
    · next h3 => exact ptC_get h i h3
    · obtain rfl : i = 12 := by omega
      exact ptC_last h
  rw [Array.getElem?_eq_getElem h1] at e
  have e2 : i = 0 ∨ i = 1 ∨ i = 2 ∨ i = 3 ∨ i = 4 ∨ i = 5 ∨ i = 6 ∨ i = 7 ∨ i = 8 ∨ i = 9 ∨ i = 10 ∨ i = 11 ∨ i = 12 := by omega
  rcases e2 with rfl | rfl | rfl | rfl | rfl | rfl | rfl | rfl | rfl | rfl | rfl | rfl | rfl <;> simpa using e
theorem pt_cell {w : World} {b : Nat} {l : List Int} (hl : l.length ≤ 12) (h : PtIn w b l) (i : Nat) (hi : i < 13) : w.cell? ⟨b, i, none⟩ = some (ptV l i) := by
  unfold ptV
  split
  · next h3 => exact h.cell hl i h3
  · obtain rfl : i = 12 := by omega
    exact h.size hl

theorem nextP_cells {w0 w : World} {b n : Nat} {l : List Int} (hn : ptV l 12 = .int .i64 (n : Int)) (hl : l.length ≤ 12) (h : PtIn w b l) (hb : Below w0.heap.size w0 w) : Hid (PtIn w b l ∧ Below w0.heap.size w0 w) ∧ w.cell? ⟨b, 0, none⟩ = some (ptV l 0) ∧ w.cell? ⟨b, 1, none⟩ = some (ptV l 1) ∧ w.cell? ⟨b, 2, none⟩ = some (ptV l 2) ∧ w.cell? ⟨b, 3, none⟩ = some (ptV l 3) ∧ w.cell? ⟨b, 4, none⟩ = some (ptV l 4) ∧ w.cell? ⟨b, 5, none⟩ = some (ptV l 5) ∧ w.cell? ⟨b, 6, none⟩ = some (ptV l 6) ∧ w.cell? ⟨b, 7, none⟩ = some (ptV l 7) ∧ w.cell? ⟨b, 8, none⟩ = some (ptV l 8) ∧ w.cell? ⟨b, 9, none⟩ = some (ptV l 9) ∧ w.cell? ⟨b, 10, none⟩ = some (ptV l 10) ∧ w.cell? ⟨b, 11, none⟩ = some (ptV l 11) ∧ w.cell? ⟨b, 12, none⟩ = some (.int .i64 (n : Int)) :=
  ⟨⟨h, hb⟩, pt_cell hl h 0 (by omega), pt_cell hl h 1 (by omega), pt_cell hl h 2 (by omega), pt_cell hl h 3 (by omega), pt_cell hl h 4 (by omega), pt_cell hl h 5 (by omega), pt_cell hl h 6 (by omega), pt_cell hl h 7 (by omega), pt_cell hl h 8 (by omega), pt_cell hl h 9 (by omega), pt_cell hl h 10 (by omega), pt_cell hl h 11 (by omega), by rw [← hn]; exact pt_cell hl h 12 (by omega)⟩
theorem nextP_out {w0 w1 : World} {b n : Nat} {l : List Int} (h : Hid (PtIn w1 b l ∧ Below w0.heap.size w0 w1) ∧ w1.cell? ⟨b, 0, none⟩ = some (ptV l 0) ∧ w1.cell? ⟨b, 1, none⟩ = some (ptV l 1) ∧ w1.cell? ⟨b, 2, none⟩ = some (ptV l 2) ∧ w1.cell? ⟨b, 3, none⟩ = some (ptV l 3) ∧ w1.cell? ⟨b, 4, none⟩ = some (ptV l 4) ∧ w1.cell? ⟨b, 5, none⟩ = some (ptV l 5) ∧ w1.cell? ⟨b, 6, none⟩ = some (ptV l 6) ∧ w1.cell? ⟨b, 7, none⟩ = some (ptV l 7) ∧ w1.cell? ⟨b, 8, none⟩ = some (ptV l 8) ∧ w1.cell? ⟨b, 9, none⟩ = some (ptV l 9) ∧ w1.cell? ⟨b, 10, none⟩ = some (ptV l 10) ∧ w1.cell? ⟨b, 11, none⟩ = some (ptV l 11) ∧ w1.cell? ⟨b, 12, none⟩ = some (.int .i64 (n : Int))) : Below w0.heap.size w0 w1 := h.1.out.2
theorem nextP_pt {w0 w1 : World} {b n : Nat} {l : List Int} (h : Hid (PtIn w1 b l ∧ Below w0.heap.size w0 w1) ∧ w1.cell? ⟨b, 0, none⟩ = some (ptV l 0) ∧ w1.cell? ⟨b, 1, none⟩ = some (ptV l 1) ∧ w1.cell? ⟨b, 2, none⟩ = some (ptV l 2) ∧ w1.cell? ⟨b, 3, none⟩ = some (ptV l 3) ∧ w1.cell? ⟨b, 4, none⟩ = some (ptV l 4) ∧ w1.cell? ⟨b, 5, none⟩ = some (ptV l 5) ∧ w1.cell? ⟨b, 6, none⟩ = some (ptV l 6) ∧ w1.cell? ⟨b, 7, none⟩ = some (ptV l 7) ∧ w1.cell? ⟨b, 8, none⟩ = some (ptV l 8) ∧ w1.cell? ⟨b, 9, none⟩ = some (ptV l 9) ∧ w1.cell? ⟨b, 10, none⟩ = some (ptV l 10) ∧ w1.cell? ⟨b, 11, none⟩ = some (ptV l 11) ∧ w1.cell? ⟨b, 12, none⟩ = some (.int .i64 (n : Int))) : PtIn w1 b l := h.1.out.1
theorem nextP_keep {w0 w1 w2 : World} {b n : Nat} {l : List Int} (hn : ptV l 12 = .int .i64 (n : Int)) (hl : l.length ≤ 12) (h : Hid (PtIn w1 b l ∧ Below w0.heap.size w0 w1) ∧ w1.cell? ⟨b, 0, none⟩ = some (ptV l 0) ∧ w1.cell? ⟨b, 1, none⟩ = some (ptV l 1) ∧ w1.cell? ⟨b, 2, none⟩ = some (ptV l 2) ∧ w1.cell? ⟨b, 3, none⟩ = some (ptV l 3) ∧ w1.cell? ⟨b, 4, none⟩ = some (ptV l 4) ∧ w1.cell? ⟨b, 5, none⟩ = some (ptV l 5) ∧ w1.cell? ⟨b, 6, none⟩ = some (ptV l 6) ∧ w1.cell? ⟨b, 7, none⟩ = some (ptV l 7) ∧ w1.cell? ⟨b, 8, none⟩ = some (ptV l 8) ∧ w1.cell? ⟨b, 9, none⟩ = some (ptV l 9) ∧ w1.cell? ⟨b, 10, none⟩ = some (ptV l 10) ∧ w1.cell? ⟨b, 11, none⟩ = some (ptV l 11) ∧ w1.cell? ⟨b, 12, none⟩ = some (.int .i64 (n : Int))) (hb : Below w1.heap.size w1 w2) :
    Hid (PtIn w2 b l ∧ Below w0.heap.size w0 w2) ∧ w2.cell? ⟨b, 0, none⟩ = some (ptV l 0) ∧ w2.cell? ⟨b, 1, none⟩ = some (ptV l 1) ∧ w2.cell? ⟨b, 2, none⟩ = some (ptV l 2) ∧ w2.cell? ⟨b, 3, none⟩ = some (ptV l 3) ∧ w2.cell? ⟨b, 4, none⟩ = some (ptV l 4) ∧ w2.cell? ⟨b, 5, none⟩ = some (ptV l 5) ∧ w2.cell? ⟨b, 6, none⟩ = some (ptV l 6) ∧ w2.cell? ⟨b, 7, none⟩ = some (ptV l 7) ∧ w2.cell? ⟨b, 8, none⟩ = some (ptV l 8) ∧ w2.cell? ⟨b, 9, none⟩ = some (ptV l 9) ∧ w2.cell? ⟨b, 10, none⟩ = some (ptV l 10) ∧ w2.cell? ⟨b, 11, none⟩ = some (ptV l 11) ∧ w2.cell? ⟨b, 12, none⟩ = some (.int .i64 (n : Int)) := nextP_cells hn hl (h.1.out.1.below hb) (Below.step h.1.out.2 hb)


end Go.Proofs.Yteeoepbbocdchaa
