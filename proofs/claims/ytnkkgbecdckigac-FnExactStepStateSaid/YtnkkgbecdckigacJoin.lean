/- What the program does to a system in a variable. -/
import Derived.Test.YtnkkgbecdckigacSys
import Derived.RegionTactic
import Derived.BigRegion
import Derived.Deep.RegionHeld3
import Derived.Deep.RegionWith
namespace Go.Proofs.Ytnkkgbecdckigac
open Go.RowKit
set_option linter.unusedSimpArgs false
set_option linter.unusedVariables false

theorem sysL_set {l : List Int} (i : Nat) (x : Int) (hi : i < l.length) : sysL (l.set i x) = (sysL l).set i (.int .i64 x) := by
  unfold sysL ints
  rw [List.length_set, List.set_append_left _ _ (by simp; omega)]
  congr 1
  rw [List.map_append, List.map_append, List.set_append_left _ _ (by simpa using hi), List.map_set]

theorem SysIn.stored {w : World} {b : Nat} {l : List Int} (h : SysIn w b l) (i : Nat) (x : Int) (hi : i < l.length) : SysIn (w.setCell ⟨b, i, none⟩ (.int .i64 x)) b (l.set i x) := by
  have := heap_setCell_same w b i _ _ (.int .i64 x) h
  unfold SysIn
  rw [this]
  unfold sysC
  rw [sysL_set i x hi]
  simp

theorem grown_setCell {w : World} {b i : Nat} {v : Value} : w.grownBy (w.setCell ⟨b, i, none⟩ v) (some b) :=
  ⟨rfl, rfl, rfl, by simp, fun k _ hk => heap_setCell_other w ⟨b, i, none⟩ k _ (fun e => hk (by simp [e]))⟩
theorem grown_trans {w w1 w2 : World} {b : Option Nat} (h1 : w.grownBy w1 b) (h2 : w1.grownBy w2 b) : w.grownBy w2 b :=
  ⟨h2.os.trans h1.os, h2.tape.trans h1.tape, h2.output.trans h1.output, Nat.le_trans h1.size h2.size, fun k hk hne => (h2.block k (Nat.lt_of_lt_of_le hk h1.size) hne).trans (h1.block k hk hne)⟩
theorem grown_drewN {w w1 : World} {b : Option Nat} (h1 : w.grownBy w1 b) (q : Nat) : w.grownBy (w1.drewN q) b := ⟨h1.os, h1.tape, h1.output, h1.size, h1.block⟩

/-- what a method behind a pointer to a system leaves -/
def TurnedJ (w : World) (b : Nat) (l : List Int) (e : Ending) (w' : World) : Prop := e = .returned (.tuple #[]) ∧ SysIn w' b l ∧ w.grownBy w' (some b)

theorem SysIn.old {w : World} {b : Nat} {l : List Int} (h : SysIn w b l) (x : Int) : SysIn (w.alloc (.cells #[.int .i64 0, .int .i64 0, .int .i64 0, .int .i64 0, .int .i64 0, .int .i64 0, .int .i64 0, .int .i64 0, .int .i64 0, .int .i64 0, .int .i64 0, .int .i64 0, .int .i64 x] 77)) b l := h.below (Below.alloc1 _ _)

/-- a system of a size, no points joined yet, in a variable that has just been laid -/
theorem SysIn.blank (w : World) (m : Nat) (x : Int) (hx : x = (m : Int)) (hm : m ≤ 12) : SysIn (w.alloc (.cells #[.int .i64 0, .int .i64 0, .int .i64 0, .int .i64 0, .int .i64 0, .int .i64 0, .int .i64 0, .int .i64 0, .int .i64 0, .int .i64 0, .int .i64 0, .int .i64 0, .int .i64 x] 77)) w.heap.size (List.replicate m 0) := by
  subst hx
  have e : sysC (List.replicate m 0) = #[.int .i64 0, .int .i64 0, .int .i64 0, .int .i64 0, .int .i64 0, .int .i64 0, .int .i64 0, .int .i64 0, .int .i64 0, .int .i64 0, .int .i64 0, .int .i64 0, .int .i64 (m : Int)] := by
    unfold sysC sysL ints
    rw [List.length_replicate, List.replicate_append_replicate, show m + (12 - m) = 12 by omega]
    rfl
  have := heap_alloc_new w (.cells (sysC (List.replicate m 0)) 77)
  rw [e] at this
  unfold SysIn
  rw [e]
  exact this

end Go.Proofs.Ytnkkgbecdckigac
