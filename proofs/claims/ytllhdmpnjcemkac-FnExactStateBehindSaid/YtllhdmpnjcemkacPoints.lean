/- Points of a system that are chosen. -/
import Derived.Test.YtllhdmpnjcemkacRead
import Derived.Test.YtllhdmpnjcemkacSlice
import Derived.Test.YtllhdmpnjcemkacGood
namespace Go.Proofs.Ytllhdmpnjcemkac
open Go.RowKit
set_option linter.unusedSimpArgs false
set_option linter.unusedVariables false

def beginsB (l : List Int) (i : Int) : Bool := decide (i < l.getD i.toNat 0)
def isSmallB (l : List Int) (i : Int) : Bool := decide (l.getD i.toNat 0 = i + 1)
/-- how many of the first k points are joined with one behind i -/
def overN (l : List Int) (i : Int) : Nat → Nat
  | 0 => 0
  | k + 1 => overN l i k + if i < l.getD k 0 then 1 else 0
theorem overN_le (l : List Int) (i : Int) : ∀ k, overN l i k ≤ k
  | 0 => Nat.le_refl _
  | k + 1 => by have := overN_le l i k; unfold overN; split <;> omega
def isOuterB (l : List Int) (i : Int) : Bool := beginsB l i && decide (overN l i i.toNat = 0)

theorem begins_any (l : List Int) (i : Int) (w : World) (h : l.length ≤ 12) (h0 : 0 ≤ i) (h1 : i < 12) :
    Calls Try.prog 81 #[.agg (sysC l), .int .i64 i] w (GivesB w (beginsB l i)) := by
  obtain ⟨i, rfl⟩ := Int.eq_ofNat_of_zero_le h0
  have hc := sysC_get h i (by omega)
  unfold beginsB
  rw [Int.toNat_natCast]
  generalize l.getD i 0 = x at hc
  go_enter Try.func81, Try.ntmps81
  go_wp2
  go_ret
  exact ⟨rfl, Below.alloc1 _ _⟩




/-- the points among the first k that are chosen -/
def whereL (c : Int → Bool) : Nat → List Int
  | 0 => []
  | k + 1 => whereL c k ++ if c (k : Int) then [(k : Int)] else []
theorem whereL_len (c : Int → Bool) : ∀ k, (whereL c k).length ≤ k
  | 0 => Nat.le_refl _
  | k + 1 => by have := whereL_len c k; simp only [whereL, List.length_append]; split <;> simp <;> omega




end Go.Proofs.Ytllhdmpnjcemkac
