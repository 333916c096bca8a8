/- The program's moved, turned, reversed, renumbered. -/
import Derived.Test.YtodbjkfikbkkbacStkRead
import Derived.Test.YtodbjkfikbkkbacDraw
namespace Go.Proofs.Ytodbjkfikbkkbac
open Go.RowKit
set_option linter.unusedSimpArgs false
set_option linter.unusedVariables false

theorem stkL_set {l : List Int} (i : Nat) (x : Int) (hi : i < l.length) : stkL (l.set i x) = (stkL l).set i (.int .i64 x) := by
  unfold stkL ints
  rw [List.length_set, List.set_append_left _ _ (by simp; omega)]
  congr 1
  rw [List.map_append, List.map_append, List.set_append_left _ _ (by simpa using hi), List.map_set]
theorem StkIn.stored {w : World} {b : Nat} {l : List Int} (h : StkIn w b l) (i : Nat) (x : Int) (hi : i < l.length) : StkIn (w.setCell ⟨b, i, none⟩ (.int .i64 x)) b (l.set i x) := by
  have := heap_setCell_same w b i _ _ (.int .i64 x) h
  unfold StkIn
  rw [this]
  unfold stkC
  rw [stkL_set i x hi]
  simp
theorem StkIn.other {w : World} {b g i : Nat} {v : Value} {l : List Int} (h : StkIn w b l) (hne : b ≠ g) : StkIn (w.setCell ⟨g, i, none⟩ v) b l :=
  (heap_setCell_other w ⟨g, i, none⟩ b v (fun e => hne (by simpa using e))).trans h
theorem StkIn.blank (w : World) (n : Nat) (hn : n ≤ 8) : StkIn (w.alloc (.cells #[.int .i64 0, .int .i64 0, .int .i64 0, .int .i64 0, .int .i64 0, .int .i64 0, .int .i64 0, .int .i64 0, .int .i64 (n : Int)] 64)) w.heap.size (List.replicate n 0) := by
  have e : stkC (List.replicate n 0) = #[.int .i64 0, .int .i64 0, .int .i64 0, .int .i64 0, .int .i64 0, .int .i64 0, .int .i64 0, .int .i64 0, .int .i64 (n : Int)] := by
    unfold stkC stkL ints
    rw [List.length_replicate, List.replicate_append_replicate, show n + (8 - n) = 8 by omega]
    rfl
  have := heap_alloc_new w (.cells (stkC (List.replicate n 0)) 64)
  rw [e] at this
  unfold StkIn
  rw [e]
  exact this
theorem StkIn.zero (w : World) : StkIn (w.alloc (.cells #[.int .i64 0, .int .i64 0, .int .i64 0, .int .i64 0, .int .i64 0, .int .i64 0, .int .i64 0, .int .i64 0, .int .i64 0] 64)) w.heap.size [] := heap_alloc_new w (.cells (stkC []) 64)

/-- a stack by value -/
def StkRet (w : World) (l : List Int) (e : Ending) (w' : World) : Prop := e = .returned (.agg (stkC l)) ∧ Below w.heap.size w w'

/-- what moved leaves behind k places -/
def movedL (f : Int → Int) (l : List Int) : Nat → List Int
  | 0 => List.replicate l.length 0
  | k + 1 => (movedL f l k).set (f (k : Int)).toNat (l.getD k 0)
theorem movedL_length (f : Int → Int) (l : List Int) : ∀ k, (movedL f l k).length = l.length
  | 0 => by simp [movedL]
  | k + 1 => by rw [movedL, List.length_set, movedL_length f l k]


theorem moved_blank (w : World) (A B : Obj) (n : Nat) (hn : n ≤ 8) : StkIn (((w.alloc A).alloc B).alloc (.cells #[.int .i64 0, .int .i64 0, .int .i64 0, .int .i64 0, .int .i64 0, .int .i64 0, .int .i64 0, .int .i64 0, .int .i64 (n : Int)] 64)) (w.heap.size + 2) (List.replicate n 0) := by
  have := StkIn.blank ((w.alloc A).alloc B) n hn
  simp only [World.size_alloc] at this
  exact this
theorem moved_zero (w : World) (A B : Obj) : StkIn (((w.alloc A).alloc (.cells #[.int .i64 0, .int .i64 0, .int .i64 0, .int .i64 0, .int .i64 0, .int .i64 0, .int .i64 0, .int .i64 0, .int .i64 0] 64)).alloc B) (w.heap.size + 1) [] := by
  have := StkIn.below (StkIn.zero (w.alloc A)) (Below.alloc1 _ B)
  rw [World.size_alloc] at this
  exact this
theorem moved_box (w : World) (l : List Int) (B C : Obj) : StkIn (((w.alloc (.cells (stkC l) 64)).alloc B).alloc C) w.heap.size l :=
  StkIn.below (StkIn.below (show StkIn (w.alloc (.cells (stkC l) 64)) w.heap.size l from heap_alloc_new w _) (Below.alloc1 _ B)) (Below.alloc1 _ C)



end Go.Proofs.Ytodbjkfikbkkbac
