/- readWord. -/
import Derived.Test.YteeoepbbocdchaaWd
namespace Go.Proofs.Yteeoepbbocdchaa
open Go.RowKit
set_option linter.unusedSimpArgs false
set_option linter.unusedVariables false

def PutOut (w : World) (g : Nat) (p b : List Int) (e : Ending) (w' : World) : Prop := e = .returned (.tuple #[]) ∧ WdIn w' g p b ∧ w.grownBy w' (some g)

set_option maxHeartbeats 1000000 in
theorem put_any (g i x : Nat) (p b : List Int) (w : World) (h : WdIn w g p b) (hp : p.length ≤ 12) (hb : b.length = 12) (hi : i < p.length) (hx : x < 12) :
    Calls Try.prog 132 #[.pointer (some ⟨g, 0, none⟩), .int .i64 i, .int .i64 x] w (PutOut w g (p.set i x) (b.set x i)) := by
  have hi12 : i < 12 := by omega
  have c1 := h.cell hp i hi12
  have f1 := h.free i
  have hs1 := h.put hp i (x : Int) hi
  have c2 := hs1.idx (by simpa using hp) hb x hx
  have f2 := hs1.free (13 + x)
  have hs2 := hs1.puti (by simpa using hp) x (i : Int)
  have HS := Lib.hid hs2; clear hs2 hs1 h
  generalize p.getD i 0 = y at c1
  generalize b.getD x 0 = z at c2
  have HL := Lib.hid hi; clear hi
  go_enter Try.func132, Try.ntmps132
  go_region
  go_end0
  exact ⟨rfl, HS.out, grownW_drewN (grownW_trans grownW_setCell grownW_setCell) 1⟩

def IntOut (w : World) (x : Int) (e : Ending) (w' : World) : Prop := e = .returned (.int .i64 x) ∧ Below w.heap.size w w'

theorem wdC_new (n : Nat) (hn : n ≤ 12) : wdC (List.replicate n 0) zero12 = #[.int .i64 0, .int .i64 0, .int .i64 0, .int .i64 0, .int .i64 0, .int .i64 0, .int .i64 0, .int .i64 0, .int .i64 0, .int .i64 0, .int .i64 0, .int .i64 0, .int .i64 (n : Int), .int .i64 0, .int .i64 0, .int .i64 0, .int .i64 0, .int .i64 0, .int .i64 0, .int .i64 0, .int .i64 0, .int .i64 0, .int .i64 0, .int .i64 0, .int .i64 0] := by
  unfold wdC wdL ptL
  rw [List.length_replicate, List.replicate_append_replicate, show n + (12 - n) = 12 by omega]
  rfl

def WdOut (w : World) (p b : List Int) (ok : Bool) (e : Ending) (w' : World) : Prop := e = .returned (.tuple #[.agg (wdC p b), .bool ok]) ∧ Below w.heap.size w w'

theorem wd_new0 (w : World) : WdIn (w.alloc (.cells #[.int .i64 0, .int .i64 0, .int .i64 0, .int .i64 0, .int .i64 0, .int .i64 0, .int .i64 0, .int .i64 0, .int .i64 0, .int .i64 0, .int .i64 0, .int .i64 0, .int .i64 0, .int .i64 0, .int .i64 0, .int .i64 0, .int .i64 0, .int .i64 0, .int .i64 0, .int .i64 0, .int .i64 0, .int .i64 0, .int .i64 0, .int .i64 0, .int .i64 0] 72)) w.heap.size [] zero12 :=
  show WdIn (w.alloc (.cells (wdC [] zero12) 72)) w.heap.size [] zero12 from heap_alloc_new w _

/-- the empty word stored into a variable -/
theorem wp_storeWd0 {ops : Array Oper} {rest : List Oper} {o : Oper} {a : Act} {w : World} {Q : Exit → Act → World → Prop} (hgd : o.guard = none) (x y : Operand) (ho : o.op = .store 72 x y)
    (g : Nat) (p0 b0 : List Int) (hl0 : p0.length ≤ 12) (hb0 : b0.length = 12) (hx : a.eval x = .pointer (some ⟨g, 0, none⟩)) (hy : a.eval y = .agg #[.int .i64 0, .int .i64 0, .int .i64 0, .int .i64 0, .int .i64 0, .int .i64 0, .int .i64 0, .int .i64 0, .int .i64 0, .int .i64 0, .int .i64 0, .int .i64 0, .int .i64 0, .int .i64 0, .int .i64 0, .int .i64 0, .int .i64 0, .int .i64 0, .int .i64 0, .int .i64 0, .int .i64 0, .int .i64 0, .int .i64 0, .int .i64 0, .int .i64 0]) (hg : WdIn w g p0 b0)
    (h : ∀ w', WdIn w' g [] zero12 → w.grownBy w' (some g) → wpList Try.prog ops Q rest (a.put o.dst undef) w') : wpList Try.prog ops Q (o :: rest) a w :=
  wp_storeWd hgd x y ho g [] zero12 p0 b0 (by simp) (by simp [zero12]) hl0 hb0 hx hy hg h
/-- a word of n zeros stored into a variable -/
theorem wp_storeWdN {ops : Array Oper} {rest : List Oper} {o : Oper} {a : Act} {w : World} {Q : Exit → Act → World → Prop} (hgd : o.guard = none) (x y : Operand) (ho : o.op = .store 72 x y)
    (g n : Nat) (hn : n ≤ 12) (hx : a.eval x = .pointer (some ⟨g, 0, none⟩)) (hy : a.eval y = .agg #[.int .i64 0, .int .i64 0, .int .i64 0, .int .i64 0, .int .i64 0, .int .i64 0, .int .i64 0, .int .i64 0, .int .i64 0, .int .i64 0, .int .i64 0, .int .i64 0, .int .i64 (n : Int), .int .i64 0, .int .i64 0, .int .i64 0, .int .i64 0, .int .i64 0, .int .i64 0, .int .i64 0, .int .i64 0, .int .i64 0, .int .i64 0, .int .i64 0, .int .i64 0]) (hg : WdIn w g [] zero12)
    (h : ∀ w', WdIn w' g (List.replicate n 0) zero12 → w.grownBy w' (some g) → wpList Try.prog ops Q rest (a.put o.dst undef) w') : wpList Try.prog ops Q (o :: rest) a w :=
  wp_storeWd hgd x y ho g (List.replicate n 0) zero12 [] zero12 (by simpa using hn) (by simp [zero12]) (by simp) (by simp [zero12]) hx (by rw [wdC_new n hn]; exact hy) hg h

theorem zero12_length : zero12.length = 12 := by simp [zero12]

end Go.Proofs.Yteeoepbbocdchaa
