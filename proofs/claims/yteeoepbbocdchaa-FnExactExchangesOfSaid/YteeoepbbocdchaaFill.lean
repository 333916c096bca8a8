/- What the program draws from a rank. -/
import Derived.Test.YteeoepbbocdchaaFillM
import Derived.Test.YteeoepbbocdchaaJoin
import Derived.Test.YteeoepbbocdchaaRead
import Derived.Test.YteeoepbbocdchaaNum
import Derived.Test.YteeoepbbocdchaaSlice
import Derived.OwnWalk
namespace Go.Proofs.Yteeoepbbocdchaa
open Go.RowKit
set_option linter.unusedSimpArgs false
set_option linter.unusedVariables false

theorem cat_N (n : Nat) (h : n ≤ 6) : cat n = (catN n : Int) := by
  have : n = 0 ∨ n = 1 ∨ n = 2 ∨ n = 3 ∨ n = 4 ∨ n = 5 ∨ n = 6 := by omega
  rcases this with rfl | rfl | rfl | rfl | rfl | rfl | rfl <;> rfl
end Go.Proofs.Yteeoepbbocdchaa
