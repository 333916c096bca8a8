/- The product of all values to their exponents. -/
import Derived.Test.YtgaaddfipkdlaabTab2
namespace Go.Proofs.Ytgaaddfipkdlaab
open Go.RowKit
set_option linter.unusedSimpArgs false
set_option linter.unusedVariables false

set_option maxHeartbeats 1000000 in
theorem taAsked_any (n x : Int) (w : World) : Calls Try.prog 39 #[.int .i64 n, .int .i64 x] w (BoolOut w (asksB n x)) := by
  have h1 := fun w => l1In_any n 0 4 w
  have h2 := fun w => l1In_any x (-3) 3 w
  have h3 := fun w => l1In_any x (-2) 2 w
  unfold asksB
  generalize inB x (-3) 3 = b at *
  generalize inB x (-2) 2 = c at *
  generalize inB n 0 4 = a at *
  have H1 := Lib.hid h1; have H2 := Lib.hid h2; have H3 := Lib.hid h3
  clear h1 h2 h3
  cases a
  · go_enter Try.func39, Try.ntmps39
    go_wp2_with (go_at_call 66; (with_reducible refine (H1.out _).mono ?_); rintro e w' ⟨rfl, rfl⟩)
    go_ret
    exact ⟨rfl, rfl⟩
  · cases b
    · go_enter Try.func39, Try.ntmps39
      go_wp2_with (first
        | (go_at_call 66; (with_reducible refine (H1.out _).mono ?_); rintro e w' ⟨rfl, rfl⟩)
        | (go_at_call 66; (with_reducible refine (H2.out _).mono ?_); rintro e w' ⟨rfl, rfl⟩))
      go_ret
      exact ⟨rfl, rfl⟩
    · by_cases hn : n < 4
      · rw [decide_eq_true hn]
        go_enter Try.func39, Try.ntmps39
        go_wp2_with (first
          | (go_at_call 66; (with_reducible refine (H1.out _).mono ?_); rintro e w' ⟨rfl, rfl⟩)
          | (go_at_call 66; (with_reducible refine (H2.out _).mono ?_); rintro e w' ⟨rfl, rfl⟩))
        go_ret
        exact ⟨rfl, rfl⟩
      · rw [decide_eq_false hn]
        go_enter Try.func39, Try.ntmps39
        go_wp2_with (first
          | (go_at_call 66; (with_reducible refine (H1.out _).mono ?_); rintro e w' ⟨rfl, rfl⟩)
          | (go_at_call 66; (with_reducible refine (H2.out _).mono ?_); rintro e w' ⟨rfl, rfl⟩)
          | (go_at_call 66; (with_reducible refine (H3.out _).mono ?_); rintro e w' ⟨rfl, rfl⟩))
        go_ret
        have hd : decide (n < 4) = false := decide_eq_false (by omega)
        exact ⟨by simp only [hd]; cases c <;> rfl, rfl⟩

end Go.Proofs.Ytgaaddfipkdlaab
