/- Contracts of the small functions on numbers. -/
import Derived.Test.YtogjclmmjdhfeacProg
import Derived.Test.YtogjclmmjdhfeacMath
import Derived.WalkKit
import Derived.WalkSpells
import Derived.WalkLawsBesides
import Derived.Lib.Hide
namespace Go.Proofs.Ytogjclmmjdhfeac
open Go.RowKit
set_option linter.unusedSimpArgs false
set_option linter.unusedVariables false


set_option maxHeartbeats 400000 in
theorem l1In_any (n lo hi : Int) (w : World) :
    Calls Try.prog 107 #[.int .i64 n, .int .i64 lo, .int .i64 hi] w fun e w' => e = .returned (.bool (inB n lo hi)) ∧ w = w' := by
  by_cases h1 : lo ≤ n
  · by_cases h2 : n ≤ hi
    · go_enter Try.func107, Try.ntmps107
      go_wp2
      go_ret
      simp [inB]; omega
    · go_enter Try.func107, Try.ntmps107
      go_wp2
      go_ret
      simp [inB]; omega
  · go_enter Try.func107, Try.ntmps107
    go_wp2
    go_ret
    simp [inB]; omega

set_option maxHeartbeats 400000 in
theorem isArchCount_any (n : Int) (w : World) :
    Calls Try.prog 70 #[.int .i64 n] w fun e w' => e = .returned (.bool (inB n 0 6)) ∧ w = w' := by
  go_enter Try.func70, Try.ntmps70
  go_wp2
  all_goals go_ret
  all_goals (simp [inB]; omega)


/-- the numbers of systems -/
def cat : Nat → Int
  | 0 => 1 | 1 => 1 | 2 => 2 | 3 => 5 | 4 => 14 | 5 => 42 | 6 => 132 | _ => 0

set_option maxHeartbeats 400000 in
theorem catalan_any (n : Nat) (hn : n ≤ 6) (w : World) :
    Calls Try.prog 71 #[.int .i64 n] w fun e w' => e = .returned (.int .i64 (cat n)) ∧ w = w' := by
  go_enter Try.func71, Try.ntmps71
  go_wp2
  go_loop [3, 6] (fun c i => ∃ k : Nat, k ≤ n ∧ i = .int .i64 k ∧ c = .int .i64 (cat k)) (fun _ i => n - (intOf i).toNat)
  case atStart => exact ⟨0, by omega, rfl, rfl⟩
  case round =>
    obtain ⟨k, hk, rfl, rfl⟩ := hrel
    by_cases hlt : k < n
    · have hk6 : k = 0 ∨ k = 1 ∨ k = 2 ∨ k = 3 ∨ k = 4 ∨ k = 5 := by omega
      rcases hk6 with rfl | rfl | rfl | rfl | rfl | rfl
      all_goals
        simp only [cat]
        go_wp2
        go_round
        case rel => exact ⟨_, hlt, rfl, rfl⟩
        case measure => simp [intOf]; omega
    · obtain rfl : k = n := by omega
      go_wp2
      go_ret
      exact ⟨rfl, rfl⟩


def countOf (n : Int) : Int := if inB n 0 6 then cat n.toNat else 0

end Go.Proofs.Ytogjclmmjdhfeac
