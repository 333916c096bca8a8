/- Semi-meanders: isSemi, spSemi, IsSemi. -/
import Derived.Test.YteeoepbbocdchaaRain
import Derived.Test.YteeoepbbocdchaaComps
import Derived.Test.YteeoepbbocdchaaJoin
import Derived.BigRegion
import Derived.IntWalk
namespace Go.Proofs.Yteeoepbbocdchaa
open Go.RowKit
set_option linter.unusedSimpArgs false
set_option linter.unusedVariables false

def semiB (l : List Int) : Bool := decide (compsL l (rainbow (l.length / 2)) = 1)
theorem rainbow_good (n : Nat) (h : n ≤ 6) : goodB (rainbow n) = true := by
  have : n = 0 ∨ n = 1 ∨ n = 2 ∨ n = 3 ∨ n = 4 ∨ n = 5 ∨ n = 6 := by omega
  rcases this with rfl | rfl | rfl | rfl | rfl | rfl | rfl <;> decide +kernel
theorem half_len {l : List Int} (h : goodB l = true) : l.length = (rainbow (l.length / 2)).length := by
  rw [rainbow_len]; have := (good_facts h).1; omega


end Go.Proofs.Yteeoepbbocdchaa
