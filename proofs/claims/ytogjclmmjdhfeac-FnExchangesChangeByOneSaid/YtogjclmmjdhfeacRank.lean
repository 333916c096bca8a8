/- What the program tells as a system's rank. -/
import Derived.Test.YtogjclmmjdhfeacFill
import Derived.Test.YtogjclmmjdhfeacJoin
namespace Go.Proofs.Ytogjclmmjdhfeac
open Go.RowKit
set_option linter.unusedSimpArgs false
set_option linter.unusedVariables false

theorem beforeN_mono (m : Nat) : ∀ i k, k ≤ i → beforeN m k ≤ beforeN m i
  | 0, k, h => by obtain rfl : k = 0 := by omega
                  exact Nat.le_refl _
  | i + 1, k, h => by
    by_cases e : k = i + 1
    · subst e; exact Nat.le_refl _
    · have := beforeN_mono m i k (by omega)
      rw [beforeN]; omega
def RankOut (w : World) (n : Nat) (e : Ending) (w' : World) : Prop := e = .returned (.int .i64 (n : Int)) ∧ Below w.heap.size w w'

theorem sys_cells {w0 w : World} {b : Nat} {l : List Int} (hl : l.length ≤ 12) (h : SysIn w b l) (hb : Below w0.heap.size w0 w) : Hid (SysIn w b l ∧ Below w0.heap.size w0 w) ∧ w.cell? ⟨b, 0, none⟩ = some (sysV l 0) ∧ w.cell? ⟨b, 1, none⟩ = some (sysV l 1) ∧ w.cell? ⟨b, 2, none⟩ = some (sysV l 2) ∧ w.cell? ⟨b, 3, none⟩ = some (sysV l 3) ∧ w.cell? ⟨b, 4, none⟩ = some (sysV l 4) ∧ w.cell? ⟨b, 5, none⟩ = some (sysV l 5) ∧ w.cell? ⟨b, 6, none⟩ = some (sysV l 6) ∧ w.cell? ⟨b, 7, none⟩ = some (sysV l 7) ∧ w.cell? ⟨b, 8, none⟩ = some (sysV l 8) ∧ w.cell? ⟨b, 9, none⟩ = some (sysV l 9) ∧ w.cell? ⟨b, 10, none⟩ = some (sysV l 10) ∧ w.cell? ⟨b, 11, none⟩ = some (sysV l 11) ∧ w.cell? ⟨b, 12, none⟩ = some (sysV l 12) :=
  ⟨⟨h, hb⟩, sys_cell hl h 0 (by omega), sys_cell hl h 1 (by omega), sys_cell hl h 2 (by omega), sys_cell hl h 3 (by omega), sys_cell hl h 4 (by omega), sys_cell hl h 5 (by omega), sys_cell hl h 6 (by omega), sys_cell hl h 7 (by omega), sys_cell hl h 8 (by omega), sys_cell hl h 9 (by omega), sys_cell hl h 10 (by omega), sys_cell hl h 11 (by omega), sys_cell hl h 12 (by omega)⟩
theorem rank_out {w0 w1 : World} {b : Nat} {l : List Int} (h : Hid (SysIn w1 b l ∧ Below w0.heap.size w0 w1) ∧ w1.cell? ⟨b, 0, none⟩ = some (sysV l 0) ∧ w1.cell? ⟨b, 1, none⟩ = some (sysV l 1) ∧ w1.cell? ⟨b, 2, none⟩ = some (sysV l 2) ∧ w1.cell? ⟨b, 3, none⟩ = some (sysV l 3) ∧ w1.cell? ⟨b, 4, none⟩ = some (sysV l 4) ∧ w1.cell? ⟨b, 5, none⟩ = some (sysV l 5) ∧ w1.cell? ⟨b, 6, none⟩ = some (sysV l 6) ∧ w1.cell? ⟨b, 7, none⟩ = some (sysV l 7) ∧ w1.cell? ⟨b, 8, none⟩ = some (sysV l 8) ∧ w1.cell? ⟨b, 9, none⟩ = some (sysV l 9) ∧ w1.cell? ⟨b, 10, none⟩ = some (sysV l 10) ∧ w1.cell? ⟨b, 11, none⟩ = some (sysV l 11) ∧ w1.cell? ⟨b, 12, none⟩ = some (sysV l 12)) : Below w0.heap.size w0 w1 := h.1.out.2
theorem rank_keep {w0 w1 w2 : World} {b : Nat} {l : List Int} (hl : l.length ≤ 12) (h : Hid (SysIn w1 b l ∧ Below w0.heap.size w0 w1) ∧ w1.cell? ⟨b, 0, none⟩ = some (sysV l 0) ∧ w1.cell? ⟨b, 1, none⟩ = some (sysV l 1) ∧ w1.cell? ⟨b, 2, none⟩ = some (sysV l 2) ∧ w1.cell? ⟨b, 3, none⟩ = some (sysV l 3) ∧ w1.cell? ⟨b, 4, none⟩ = some (sysV l 4) ∧ w1.cell? ⟨b, 5, none⟩ = some (sysV l 5) ∧ w1.cell? ⟨b, 6, none⟩ = some (sysV l 6) ∧ w1.cell? ⟨b, 7, none⟩ = some (sysV l 7) ∧ w1.cell? ⟨b, 8, none⟩ = some (sysV l 8) ∧ w1.cell? ⟨b, 9, none⟩ = some (sysV l 9) ∧ w1.cell? ⟨b, 10, none⟩ = some (sysV l 10) ∧ w1.cell? ⟨b, 11, none⟩ = some (sysV l 11) ∧ w1.cell? ⟨b, 12, none⟩ = some (sysV l 12)) (hb : Below w1.heap.size w1 w2) :
    Hid (SysIn w2 b l ∧ Below w0.heap.size w0 w2) ∧ w2.cell? ⟨b, 0, none⟩ = some (sysV l 0) ∧ w2.cell? ⟨b, 1, none⟩ = some (sysV l 1) ∧ w2.cell? ⟨b, 2, none⟩ = some (sysV l 2) ∧ w2.cell? ⟨b, 3, none⟩ = some (sysV l 3) ∧ w2.cell? ⟨b, 4, none⟩ = some (sysV l 4) ∧ w2.cell? ⟨b, 5, none⟩ = some (sysV l 5) ∧ w2.cell? ⟨b, 6, none⟩ = some (sysV l 6) ∧ w2.cell? ⟨b, 7, none⟩ = some (sysV l 7) ∧ w2.cell? ⟨b, 8, none⟩ = some (sysV l 8) ∧ w2.cell? ⟨b, 9, none⟩ = some (sysV l 9) ∧ w2.cell? ⟨b, 10, none⟩ = some (sysV l 10) ∧ w2.cell? ⟨b, 11, none⟩ = some (sysV l 11) ∧ w2.cell? ⟨b, 12, none⟩ = some (sysV l 12) :=
  sys_cells hl (h.1.out.1.below hb) (Below.step h.1.out.2 hb)

end Go.Proofs.Ytogjclmmjdhfeac
