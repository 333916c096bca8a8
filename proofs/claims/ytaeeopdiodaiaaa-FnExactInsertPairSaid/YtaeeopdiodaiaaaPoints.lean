/- Points of a system that are chosen. -/
import Derived.Test.YtaeeopdiodaiaaaRead
import Derived.Test.YtaeeopdiodaiaaaSlice
import Derived.Test.YtaeeopdiodaiaaaGood
namespace Go.Proofs.Ytaeeopdiodaiaaa
open Go.RowKit
set_option linter.unusedSimpArgs false
set_option linter.unusedVariables false

def beginsB (l : List Int) (i : Int) : Bool := decide (i < l.getD i.toNat 0)
def isSmallB (l : List Int) (i : Int) : Bool := decide (l.getD i.toNat 0 = i + 1)
/-- how many of the first k points are joined with one behind i -/
def overN (l : List Int) (i : Int) : Nat → Nat
  | 0 => 0
  | k + 1 => overN l i k + if i < l.getD k 0 then 1 else 0
theorem overN_le (l : List Int) (i : Int) : ∀ k, overN l i k ≤ k
  | 0 => Nat.le_refl _
  | k + 1 => by have := overN_le l i k; unfold overN; split <;> omega
def isOuterB (l : List Int) (i : Int) : Bool := beginsB l i && decide (overN l i i.toNat = 0)

/-- the points among the first k that are chosen -/
def whereL (c : Int → Bool) : Nat → List Int
  | 0 => []
  | k + 1 => whereL c k ++ if c (k : Int) then [(k : Int)] else []
theorem whereL_len (c : Int → Bool) : ∀ k, (whereL c k).length ≤ k
  | 0 => Nat.le_refl _
  | k + 1 => by have := whereL_len c k; simp only [whereL, List.length_append]; split <;> simp <;> omega




end Go.Proofs.Ytaeeopdiodaiaaa
