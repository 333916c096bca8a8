/- The model's peBetween, peCross, peCrossing, peOpen, peClosed. -/
import Derived.Test.YteeoepbbocdchaaWdSpec
import Derived.Test.YteeoepbbocdchaaOwn
import Derived.Deep.QuietTactic
import Derived.BigQuiet
import Derived.RegionTactic
import Derived.BigRegion
import Derived.Deep.RegionHeld3
import Derived.Deep.RegionWith
namespace Go.Proofs.Yteeoepbbocdchaa
open Go.RowKit
set_option linter.unusedSimpArgs false
set_option linter.unusedVariables false

def IntSame (w : World) (x : Int) (e : Ending) (w' : World) : Prop := e = .returned (.int .i64 x) ∧ w = w'
theorem ret_int {x y : Int} (h : x = y) : Ending.returned (.int .i64 x) = .returned (.int .i64 y) := by rw [h]
theorem ret_bo {x y : Bool} (h : x = y) : Ending.returned (.bool x) = .returned (.bool y) := by rw [h]

theorem least_int (a b : Int) (w : World) : Calls Try.prog 194 #[.int .i64 a, .int .i64 b] w (IntSame w (min a b)) := by
  obtain ⟨m, hm⟩ : ∃ m, m = min a b := ⟨_, rfl⟩
  rw [← hm]
  by_cases h : a < b
  · go_enter Try.func194, Try.ntmps194
    go_wp2
    go_ret
    exact ⟨ret_int (by omega), rfl⟩
  · go_enter Try.func194, Try.ntmps194
    go_wp2
    go_ret
    exact ⟨ret_int (by omega), rfl⟩
theorem most_int (a b : Int) (w : World) : Calls Try.prog 116 #[.int .i64 a, .int .i64 b] w (IntSame w (max a b)) := by
  obtain ⟨m, hm⟩ : ∃ m, m = max a b := ⟨_, rfl⟩
  rw [← hm]
  by_cases h : b < a
  · go_enter Try.func116, Try.ntmps116
    go_wp2
    go_ret
    exact ⟨ret_int (by omega), rfl⟩
  · go_enter Try.func116, Try.ntmps116
    go_wp2
    go_ret
    exact ⟨ret_int (by omega), rfl⟩

set_option maxHeartbeats 1000000 in
theorem peBetween_any (x a b : Int) (w : World) : Calls Try.prog 169 #[.int .i64 x, .int .i64 a, .int .i64 b] w (Says w (btwB a b x)) := by
  have h1 := fun w => least_int a b w
  have h2 := fun w => most_int a b w
  unfold btwB
  generalize min a b = lo at *
  generalize max a b = hi at *
  obtain ⟨R, hR⟩ : ∃ R, decide (lo < x ∧ x < hi) = R := ⟨_, rfl⟩
  rw [hR]
  have H1 := Lib.hid h1; have H2 := Lib.hid h2
  clear h1 h2
  by_cases c1 : lo < x
  · by_cases c2 : x < hi
    · obtain rfl : R = true := by rw [← hR]; exact decide_eq_true ⟨c1, c2⟩
      clear hR
      go_enter Try.func169, Try.ntmps169
      go_wp2_with (first
        | (go_at_call 194; refine (H1.out _).mono ?_; rintro e w' ⟨rfl, rfl⟩)
        | (go_at_call 116; refine (H2.out _).mono ?_; rintro e w' ⟨rfl, rfl⟩))
      go_ret
      exact ⟨rfl, rfl⟩
    · obtain rfl : R = false := by rw [← hR]; exact decide_eq_false (fun h => c2 h.2)
      clear hR
      go_enter Try.func169, Try.ntmps169
      go_wp2_with (first
        | (go_at_call 194; refine (H1.out _).mono ?_; rintro e w' ⟨rfl, rfl⟩)
        | (go_at_call 116; refine (H2.out _).mono ?_; rintro e w' ⟨rfl, rfl⟩))
      go_ret
      exact ⟨ret_bo (by simp; omega), rfl⟩
  · obtain rfl : R = false := by rw [← hR]; exact decide_eq_false (fun h => c1 h.1)
    clear hR
    go_enter Try.func169, Try.ntmps169
    go_wp2_with (first
      | (go_at_call 194; refine (H1.out _).mono ?_; rintro e w' ⟨rfl, rfl⟩)
      | (go_at_call 116; refine (H2.out _).mono ?_; rintro e w' ⟨rfl, rfl⟩))
    go_ret
    exact ⟨rfl, rfl⟩

set_option maxHeartbeats 1000000 in
theorem peCross_any (a b c d : Int) (w : World) : Calls Try.prog 131 #[.int .i64 a, .int .i64 b, .int .i64 c, .int .i64 d] w (Says w (crsB a b c d)) := by
  have h1 := fun w => peBetween_any c a b w
  have h2 := fun w => peBetween_any d a b w
  unfold crsB
  generalize btwB a b c = x at *
  generalize btwB a b d = y at *
  have H1 := Lib.hid h1; have H2 := Lib.hid h2
  clear h1 h2
  go_enter Try.func131, Try.ntmps131
  go_wp2_with (first
    | (go_at_call_of 169 (Value.int IntKind.i64 c); refine (H1.out _).mono ?_; rintro e w' ⟨rfl, rfl⟩)
    | (go_at_call_of 169 (Value.int IntKind.i64 d); refine (H2.out _).mono ?_; rintro e w' ⟨rfl, rfl⟩))
  all_goals
    go_ret
    exact ⟨ret_bo (by cases x <;> cases y <;> rfl), rfl⟩

end Go.Proofs.Yteeoepbbocdchaa
