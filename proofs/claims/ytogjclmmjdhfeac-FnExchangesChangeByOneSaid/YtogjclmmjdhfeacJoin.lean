/- What the program does to a system in a variable. -/
/- The cells of a system, one by one. -/
import Derived.Test.YtogjclmmjdhfeacSys
import Derived.RegionTactic
import Derived.BigRegion
import Derived.Deep.RegionHeld3
import Derived.Deep.RegionWith
import Derived.Test.YtogjclmmjdhfeacOwn
namespace Go.Proofs.Ytogjclmmjdhfeac
open Go.RowKit
set_option linter.unusedSimpArgs false
set_option linter.unusedVariables false

theorem sysL_set {l : List Int} (i : Nat) (x : Int) (hi : i < l.length) : sysL (l.set i x) = (sysL l).set i (.int .i64 x) := by
  unfold sysL ints
  rw [List.length_set, List.set_append_left _ _ (by simp; omega)]
  congr 1
  rw [List.map_append, List.map_append, List.set_append_left _ _ (by simpa using hi), List.map_set]

theorem SysIn.stored {w : World} {b : Nat} {l : List Int} (h : SysIn w b l) (i : Nat) (x : Int) (hi : i < l.length) : SysIn (w.setCell ⟨b, i, none⟩ (.int .i64 x)) b (l.set i x) := by
  have := heap_setCell_same w b i _ _ (.int .i64 x) h
  unfold SysIn
  rw [this]
  unfold sysC
  rw [sysL_set i x hi]
  simp

/-- what a method behind a pointer to a system leaves -/
def TurnedJ (w : World) (b : Nat) (l : List Int) (e : Ending) (w' : World) : Prop := e = .returned (.tuple #[]) ∧ SysIn w' b l ∧ w.grownBy w' (some b)

set_option maxHeartbeats 1000000 in
theorem join_any (b i j : Nat) (l : List Int) (w : World) (h : SysIn w b l) (hl : l.length ≤ 12) (hi : i < l.length) (hj : j < l.length) :
    Calls Try.prog 92 #[.pointer (some ⟨b, 0, none⟩), .int .i64 i, .int .i64 j] w (TurnedJ w b ((l.set i j).set j i)) := by
  have hi12 : i < 12 := by omega
  have hj12 : j < 12 := by omega
  have c1 := h.cell hl i (by omega)
  have f1 := h.free i
  have hs1 := h.stored i (j : Int) hi
  have c2 := hs1.cell (by simpa using hl) j (by omega)
  have f2 := hs1.free j
  have hs2 := hs1.stored j (i : Int) (by simpa using hj)
  have HS := Lib.hid hs2; clear hs2 hs1 h
  generalize l.getD i 0 = x at c1
  generalize (l.set i (j : Int)).getD j 0 = y at c2
  have HL := Lib.hid hi; clear hi
  have HL2 := Lib.hid hj; clear hj
  go_enter Try.func92, Try.ntmps92
  go_wp2
  go_region
  go_end0
  exact ⟨rfl, HS.out, grown_drewN (grown_trans grown_setCell grown_setCell) 1⟩

theorem join_int (b : Nat) (i j : Int) (l : List Int) (w : World) (h : SysIn w b l) (hl : l.length ≤ 12) (hi0 : 0 ≤ i) (hi : i < l.length) (hj0 : 0 ≤ j) (hj : j < l.length) :
    Calls Try.prog 92 #[.pointer (some ⟨b, 0, none⟩), .int .i64 i, .int .i64 j] w (TurnedJ w b ((l.set i.toNat j).set j.toNat i)) := by
  obtain ⟨i, rfl⟩ := Int.eq_ofNat_of_zero_le hi0
  obtain ⟨j, rfl⟩ := Int.eq_ofNat_of_zero_le hj0
  exact join_any b i j l w h hl (by omega) (by omega)

theorem SysIn.old {w : World} {b : Nat} {l : List Int} (h : SysIn w b l) (x : Int) : SysIn (w.alloc (.cells #[.int .i64 0, .int .i64 0, .int .i64 0, .int .i64 0, .int .i64 0, .int .i64 0, .int .i64 0, .int .i64 0, .int .i64 0, .int .i64 0, .int .i64 0, .int .i64 0, .int .i64 x] 56)) b l := h.below (Below.alloc1 _ _)

/-- a system of a size, no points joined yet, in a variable that has just been laid -/
theorem SysIn.blank (w : World) (m : Nat) (x : Int) (hx : x = (m : Int)) (hm : m ≤ 12) : SysIn (w.alloc (.cells #[.int .i64 0, .int .i64 0, .int .i64 0, .int .i64 0, .int .i64 0, .int .i64 0, .int .i64 0, .int .i64 0, .int .i64 0, .int .i64 0, .int .i64 0, .int .i64 0, .int .i64 x] 56)) w.heap.size (List.replicate m 0) := by
  subst hx
  have e : sysC (List.replicate m 0) = #[.int .i64 0, .int .i64 0, .int .i64 0, .int .i64 0, .int .i64 0, .int .i64 0, .int .i64 0, .int .i64 0, .int .i64 0, .int .i64 0, .int .i64 0, .int .i64 0, .int .i64 (m : Int)] := by
    unfold sysC sysL ints
    rw [List.length_replicate, List.replicate_append_replicate, show m + (12 - m) = 12 by omega]
    rfl
  have := heap_alloc_new w (.cells (sysC (List.replicate m 0)) 56)
  rw [e] at this
  unfold SysIn
  rw [e]
  exact this

end Go.Proofs.Ytogjclmmjdhfeac

namespace Go.Proofs.Ytogjclmmjdhfeac
open Go.RowKit
set_option linter.unusedSimpArgs false
set_option linter.unusedVariables false

/-- the cells of a system, one by one -/
def sysV (l : List Int) (i : Nat) : Value := if i < 12 then .int .i64 (l.getD i 0) else .int .i64 l.length
theorem sysC_lit {l : List Int} (h : l.length ≤ 12) : sysC l = #[sysV l 0, sysV l 1, sysV l 2, sysV l 3, sysV l 4, sysV l 5, sysV l 6, sysV l 7, sysV l 8, sysV l 9, sysV l 10, sysV l 11, sysV l 12] := by
  refine Array.ext (by rw [sysC_size h]; rfl) fun i h1 h2 => ?_
  have hi : i < 13 := by rw [sysC_size h] at h1; exact h1
  have e : (sysC l)[i]? = some (sysV l i) := by
    unfold sysV
    split
    · next h3 => exact sysC_get h i h3
    · obtain rfl : i = 12 := by omega
      exact sysC_last h
  rw [Array.getElem?_eq_getElem h1] at e
  have e2 : i = 0 ∨ i = 1 ∨ i = 2 ∨ i = 3 ∨ i = 4 ∨ i = 5 ∨ i = 6 ∨ i = 7 ∨ i = 8 ∨ i = 9 ∨ i = 10 ∨ i = 11 ∨ i = 12 := by omega
  rcases e2 with rfl | rfl | rfl | rfl | rfl | rfl | rfl | rfl | rfl | rfl | rfl | rfl | rfl <;> simpa using e
theorem sys_cell {w : World} {b : Nat} {l : List Int} (hl : l.length ≤ 12) (h : SysIn w b l) (i : Nat) (hi : i < 13) : w.cell? ⟨b, i, none⟩ = some (sysV l i) := by
  unfold sysV
  split
  · next h3 => exact h.cell hl i h3
  · obtain rfl : i = 12 := by omega
    exact h.size hl

theorem next_cells {w0 w : World} {b n : Nat} {l : List Int} (hn : sysV l 12 = .int .i64 (n : Int)) (hl : l.length ≤ 12) (h : SysIn w b l) (hb : Below w0.heap.size w0 w) : Hid (SysIn w b l ∧ Below w0.heap.size w0 w) ∧ w.cell? ⟨b, 0, none⟩ = some (sysV l 0) ∧ w.cell? ⟨b, 1, none⟩ = some (sysV l 1) ∧ w.cell? ⟨b, 2, none⟩ = some (sysV l 2) ∧ w.cell? ⟨b, 3, none⟩ = some (sysV l 3) ∧ w.cell? ⟨b, 4, none⟩ = some (sysV l 4) ∧ w.cell? ⟨b, 5, none⟩ = some (sysV l 5) ∧ w.cell? ⟨b, 6, none⟩ = some (sysV l 6) ∧ w.cell? ⟨b, 7, none⟩ = some (sysV l 7) ∧ w.cell? ⟨b, 8, none⟩ = some (sysV l 8) ∧ w.cell? ⟨b, 9, none⟩ = some (sysV l 9) ∧ w.cell? ⟨b, 10, none⟩ = some (sysV l 10) ∧ w.cell? ⟨b, 11, none⟩ = some (sysV l 11) ∧ w.cell? ⟨b, 12, none⟩ = some (.int .i64 (n : Int)) :=
  ⟨⟨h, hb⟩, sys_cell hl h 0 (by omega), sys_cell hl h 1 (by omega), sys_cell hl h 2 (by omega), sys_cell hl h 3 (by omega), sys_cell hl h 4 (by omega), sys_cell hl h 5 (by omega), sys_cell hl h 6 (by omega), sys_cell hl h 7 (by omega), sys_cell hl h 8 (by omega), sys_cell hl h 9 (by omega), sys_cell hl h 10 (by omega), sys_cell hl h 11 (by omega), by rw [← hn]; exact sys_cell hl h 12 (by omega)⟩
theorem next_out {w0 w1 : World} {b n : Nat} {l : List Int} (h : Hid (SysIn w1 b l ∧ Below w0.heap.size w0 w1) ∧ w1.cell? ⟨b, 0, none⟩ = some (sysV l 0) ∧ w1.cell? ⟨b, 1, none⟩ = some (sysV l 1) ∧ w1.cell? ⟨b, 2, none⟩ = some (sysV l 2) ∧ w1.cell? ⟨b, 3, none⟩ = some (sysV l 3) ∧ w1.cell? ⟨b, 4, none⟩ = some (sysV l 4) ∧ w1.cell? ⟨b, 5, none⟩ = some (sysV l 5) ∧ w1.cell? ⟨b, 6, none⟩ = some (sysV l 6) ∧ w1.cell? ⟨b, 7, none⟩ = some (sysV l 7) ∧ w1.cell? ⟨b, 8, none⟩ = some (sysV l 8) ∧ w1.cell? ⟨b, 9, none⟩ = some (sysV l 9) ∧ w1.cell? ⟨b, 10, none⟩ = some (sysV l 10) ∧ w1.cell? ⟨b, 11, none⟩ = some (sysV l 11) ∧ w1.cell? ⟨b, 12, none⟩ = some (.int .i64 (n : Int))) : Below w0.heap.size w0 w1 := h.1.out.2
theorem next_keep {w0 w1 w2 : World} {b n : Nat} {l : List Int} (hn : sysV l 12 = .int .i64 (n : Int)) (hl : l.length ≤ 12) (h : Hid (SysIn w1 b l ∧ Below w0.heap.size w0 w1) ∧ w1.cell? ⟨b, 0, none⟩ = some (sysV l 0) ∧ w1.cell? ⟨b, 1, none⟩ = some (sysV l 1) ∧ w1.cell? ⟨b, 2, none⟩ = some (sysV l 2) ∧ w1.cell? ⟨b, 3, none⟩ = some (sysV l 3) ∧ w1.cell? ⟨b, 4, none⟩ = some (sysV l 4) ∧ w1.cell? ⟨b, 5, none⟩ = some (sysV l 5) ∧ w1.cell? ⟨b, 6, none⟩ = some (sysV l 6) ∧ w1.cell? ⟨b, 7, none⟩ = some (sysV l 7) ∧ w1.cell? ⟨b, 8, none⟩ = some (sysV l 8) ∧ w1.cell? ⟨b, 9, none⟩ = some (sysV l 9) ∧ w1.cell? ⟨b, 10, none⟩ = some (sysV l 10) ∧ w1.cell? ⟨b, 11, none⟩ = some (sysV l 11) ∧ w1.cell? ⟨b, 12, none⟩ = some (.int .i64 (n : Int))) (hb : Below w1.heap.size w1 w2) :
    Hid (SysIn w2 b l ∧ Below w0.heap.size w0 w2) ∧ w2.cell? ⟨b, 0, none⟩ = some (sysV l 0) ∧ w2.cell? ⟨b, 1, none⟩ = some (sysV l 1) ∧ w2.cell? ⟨b, 2, none⟩ = some (sysV l 2) ∧ w2.cell? ⟨b, 3, none⟩ = some (sysV l 3) ∧ w2.cell? ⟨b, 4, none⟩ = some (sysV l 4) ∧ w2.cell? ⟨b, 5, none⟩ = some (sysV l 5) ∧ w2.cell? ⟨b, 6, none⟩ = some (sysV l 6) ∧ w2.cell? ⟨b, 7, none⟩ = some (sysV l 7) ∧ w2.cell? ⟨b, 8, none⟩ = some (sysV l 8) ∧ w2.cell? ⟨b, 9, none⟩ = some (sysV l 9) ∧ w2.cell? ⟨b, 10, none⟩ = some (sysV l 10) ∧ w2.cell? ⟨b, 11, none⟩ = some (sysV l 11) ∧ w2.cell? ⟨b, 12, none⟩ = some (.int .i64 (n : Int)) := next_cells hn hl (h.1.out.1.below hb) (Below.step h.1.out.2 hb)

end Go.Proofs.Ytogjclmmjdhfeac
