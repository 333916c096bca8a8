/- Contracts of the small functions on numbers. -/
import Derived.Test.YteeoepbbocdchaaProg
import Derived.Test.YteeoepbbocdchaaMath
import Derived.WalkKit
import Derived.WalkSpells
import Derived.WalkLawsBesides
import Derived.Lib.Hide
namespace Go.Proofs.Yteeoepbbocdchaa
open Go.RowKit
set_option linter.unusedSimpArgs false
set_option linter.unusedVariables false


set_option maxHeartbeats 400000 in
theorem l1In_any (n lo hi : Int) (w : World) :
    Calls Try.prog 87 #[.int .i64 n, .int .i64 lo, .int .i64 hi] w fun e w' => e = .returned (.bool (inB n lo hi)) ∧ w = w' := by
  by_cases h1 : lo ≤ n
  · by_cases h2 : n ≤ hi
    · go_enter Try.func87, Try.ntmps87
      go_wp2
      go_ret
      simp [inB]; omega
    · go_enter Try.func87, Try.ntmps87
      go_wp2
      go_ret
      simp [inB]; omega
  · go_enter Try.func87, Try.ntmps87
    go_wp2
    go_ret
    simp [inB]; omega



/-- the numbers of systems -/
def cat : Nat → Int
  | 0 => 1 | 1 => 1 | 2 => 2 | 3 => 5 | 4 => 14 | 5 => 42 | 6 => 132 | _ => 0



def countOf (n : Int) : Int := if inB n 0 6 then cat n.toNat else 0

end Go.Proofs.Yteeoepbbocdchaa
