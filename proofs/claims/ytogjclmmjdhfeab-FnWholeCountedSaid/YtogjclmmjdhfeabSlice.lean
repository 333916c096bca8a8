/- Contracts of the laws' own helpers on slices of int. -/
import Derived.Test.YtogjclmmjdhfeabBase
import Derived.Deep.QuietTactic
import Derived.BigQuiet
namespace Go.Proofs.Ytogjclmmjdhfeab
open Go.RowKit
set_option linter.unusedSimpArgs false
set_option linter.unusedVariables false

/-- the numbers k, k + 1, .. -/
def marks (k : Int) (n : Nat) : List Int := (List.range n).map fun (i : Nat) => k + (i : Int)

theorem marks_length (k : Int) (n : Nat) : (marks k n).length = n := by simp [marks]
theorem marks_get (k : Int) (n i : Nat) (h : i < n) : (marks k n).getD i 0 = k + i := by simp [marks, List.getD, h]

def Equal (w : World) (e : Ending) (w' : World) : Prop := e = .returned (.bool true) ∧ ∃ q, w' = w.drewN q

def Marked (B : Nat) (w : World) (v : Value) (k : Int) (n : Nat) (e : Ending) (w' : World) : Prop :=
  e = .returned (.int .i64 (k + n)) ∧ Own B w' v (marks k n) ∧ w.grownBy w' v.ownBlock

def Held (w : World) (k : Int) (n : Nat) (e : Ending) (w' : World) : Prop := e = .returned (.int .i64 (k + n)) ∧ w = w'

/-! ### the same in one form, for the laws -/
def Gives (w : World) (l : List Int) (ok : Bool) (e : Ending) (w' : World) : Prop := ∃ v, e = .returned (.tuple #[v, .bool ok]) ∧ Own w.heap.size w' v l ∧ Below w.heap.size w w'
def GivesN (w : World) (n : Int) (ok : Bool) (e : Ending) (w' : World) : Prop := e = .returned (.tuple #[.int .i64 n, .bool ok]) ∧ Below w.heap.size w w'
def GivesT (w : World) (s : ByteArray) (ok : Bool) (e : Ending) (w' : World) : Prop := e = .returned (.tuple #[.string s, .bool ok]) ∧ Below w.heap.size w w'
def GivesB (w : World) (ok : Bool) (e : Ending) (w' : World) : Prop := e = .returned (.bool ok) ∧ Below w.heap.size w w'
def GivesD (w : World) (x ok : Bool) (e : Ending) (w' : World) : Prop := e = .returned (.tuple #[.bool x, .bool ok]) ∧ Below w.heap.size w w'
def Good (w : World) (e : Ending) (w' : World) : Prop := e = .returned (.bool true) ∧ Below w.heap.size w w'
def Made (w : World) (l : List Int) (e : Ending) (w' : World) : Prop := ∃ v', e = .returned v' ∧ Own w.heap.size w' v' l ∧ Below w.heap.size w w'

def HeldOk (w : World) (k : Int) (n : Nat) (e : Ending) (w' : World) : Prop := e = .returned (.int .i64 (k + n)) ∧ Below w.heap.size w w'
/-- where the block of an owned slice lies -/
def In (v : Value) (lo hi : Nat) : Prop := ∀ k, v.ownBlock = some k → lo ≤ k ∧ k < hi
theorem Own.inn {B : Nat} {w : World} {v : Value} {l : List Int} (h : Own B w v l) : In v B w.heap.size := h.lt
theorem In.apart {u v : Value} {a b c d : Nat} (hu : In u a b) (hv : In v c d) (h : b ≤ c ∨ d ≤ a) : ∀ k, u.ownBlock = some k → v.ownBlock ≠ some k := by
  intro k h1 h2
  have := hu k h1
  have := hv k h2
  omega
theorem Below.step {w w1 w2 : World} (h : Below w.heap.size w w1) (hb : Below w1.heap.size w1 w2) : Below w.heap.size w w2 := h.trans (hb.mono h.size)
theorem Below.mark {w w1 w2 : World} {v : Value} {B hi : Nat} (h : Below w.heap.size w w1) (hg : w1.grownBy w2 v.ownBlock) (hv : In v B hi) (hB : w.heap.size ≤ B) : Below w.heap.size w w2 :=
  h.grown hg h.size fun k hk => Nat.le_trans hB (hv k hk).1

end Go.Proofs.Ytogjclmmjdhfeab
