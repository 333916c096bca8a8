/- What the program does to a system in a variable. -/
import Derived.Test.YtnkkgbecdckigabSys
import Derived.RegionTactic
import Derived.BigRegion
import Derived.Deep.RegionHeld3
import Derived.Deep.RegionWith
namespace Go.Proofs.Ytnkkgbecdckigab
open Go.RowKit
set_option linter.unusedSimpArgs false
set_option linter.unusedVariables false

theorem sysL_set {l : List Int} (i : Nat) (x : Int) (hi : i < l.length) : sysL (l.set i x) = (sysL l).set i (.int .i64 x) := by
  unfold sysL ints
  rw [List.length_set, List.set_append_left _ _ (by simp; omega)]
  congr 1
  rw [List.map_append, List.map_append, List.set_append_left _ _ (by simpa using hi), List.map_set]

theorem SysIn.stored {w : World} {b : Nat} {l : List Int} (h : SysIn w b l) (i : Nat) (x : Int) (hi : i < l.length) : SysIn (w.setCell ⟨b, i, none⟩ (.int .i64 x)) b (l.set i x) := by
  have := heap_setCell_same w b i _ _ (.int .i64 x) h
  unfold SysIn
  rw [this]
  unfold sysC
  rw [sysL_set i x hi]
  simp

theorem grown_setCell {w : World} {b i : Nat} {v : Value} : w.grownBy (w.setCell ⟨b, i, none⟩ v) (some b) :=
  ⟨rfl, rfl, rfl, by simp, fun k _ hk => heap_setCell_other w ⟨b, i, none⟩ k _ (fun e => hk (by simp [e]))⟩
theorem grown_trans {w w1 w2 : World} {b : Option Nat} (h1 : w.grownBy w1 b) (h2 : w1.grownBy w2 b) : w.grownBy w2 b :=
  ⟨h2.os.trans h1.os, h2.tape.trans h1.tape, h2.output.trans h1.output, Nat.le_trans h1.size h2.size, fun k hk hne => (h2.block k (Nat.lt_of_lt_of_le hk h1.size) hne).trans (h1.block k hk hne)⟩
theorem grown_drewN {w w1 : World} {b : Option Nat} (h1 : w.grownBy w1 b) (q : Nat) : w.grownBy (w1.drewN q) b := ⟨h1.os, h1.tape, h1.output, h1.size, h1.block⟩

/-- what a method behind a pointer to a system leaves -/
def TurnedJ (w : World) (b : Nat) (l : List Int) (e : Ending) (w' : World) : Prop := e = .returned (.tuple #[]) ∧ SysIn w' b l ∧ w.grownBy w' (some b)

set_option maxHeartbeats 1000000 in
theorem join_any (b i j : Nat) (l : List Int) (w : World) (h : SysIn w b l) (hl : l.length ≤ 12) (hi : i < l.length) (hj : j < l.length) :
    Calls Try.prog 56 #[.pointer (some ⟨b, 0, none⟩), .int .i64 i, .int .i64 j] w (TurnedJ w b ((l.set i j).set j i)) := by
  have hi12 : i < 12 := by omega
  have hj12 : j < 12 := by omega
  have c1 := h.cell hl i (by omega)
  have f1 := h.free i
  have hs1 := h.stored i (j : Int) hi
  have c2 := hs1.cell (by simpa using hl) j (by omega)
  have f2 := hs1.free j
  have hs2 := hs1.stored j (i : Int) (by simpa using hj)
  have HS := Lib.hid hs2; clear hs2 hs1 h
  generalize l.getD i 0 = x at c1
  generalize (l.set i (j : Int)).getD j 0 = y at c2
  have HL := Lib.hid hi; clear hi
  have HL2 := Lib.hid hj; clear hj
  go_enter Try.func56, Try.ntmps56
  go_wp2
  go_region
  go_end0
  exact ⟨rfl, HS.out, grown_drewN (grown_trans grown_setCell grown_setCell) 1⟩

theorem join_int (b : Nat) (i j : Int) (l : List Int) (w : World) (h : SysIn w b l) (hl : l.length ≤ 12) (hi0 : 0 ≤ i) (hi : i < l.length) (hj0 : 0 ≤ j) (hj : j < l.length) :
    Calls Try.prog 56 #[.pointer (some ⟨b, 0, none⟩), .int .i64 i, .int .i64 j] w (TurnedJ w b ((l.set i.toNat j).set j.toNat i)) := by
  obtain ⟨i, rfl⟩ := Int.eq_ofNat_of_zero_le hi0
  obtain ⟨j, rfl⟩ := Int.eq_ofNat_of_zero_le hj0
  exact join_any b i j l w h hl (by omega) (by omega)

theorem SysIn.old {w : World} {b : Nat} {l : List Int} (h : SysIn w b l) (x : Int) : SysIn (w.alloc (.cells #[.int .i64 0, .int .i64 0, .int .i64 0, .int .i64 0, .int .i64 0, .int .i64 0, .int .i64 0, .int .i64 0, .int .i64 0, .int .i64 0, .int .i64 0, .int .i64 0, .int .i64 x] 53)) b l := h.below (Below.alloc1 _ _)

/-- a system of a size, no points joined yet, in a variable that has just been laid -/
theorem SysIn.blank (w : World) (m : Nat) (x : Int) (hx : x = (m : Int)) (hm : m ≤ 12) : SysIn (w.alloc (.cells #[.int .i64 0, .int .i64 0, .int .i64 0, .int .i64 0, .int .i64 0, .int .i64 0, .int .i64 0, .int .i64 0, .int .i64 0, .int .i64 0, .int .i64 0, .int .i64 0, .int .i64 x] 53)) w.heap.size (List.replicate m 0) := by
  subst hx
  have e : sysC (List.replicate m 0) = #[.int .i64 0, .int .i64 0, .int .i64 0, .int .i64 0, .int .i64 0, .int .i64 0, .int .i64 0, .int .i64 0, .int .i64 0, .int .i64 0, .int .i64 0, .int .i64 0, .int .i64 (m : Int)] := by
    unfold sysC sysL ints
    rw [List.length_replicate, List.replicate_append_replicate, show m + (12 - m) = 12 by omega]
    rfl
  have := heap_alloc_new w (.cells (sysC (List.replicate m 0)) 53)
  rw [e] at this
  unfold SysIn
  rw [e]
  exact this

end Go.Proofs.Ytnkkgbecdckigab
