/- Joins of points and whether they cross. -/
import Derived.Test.YtkohmdhjjnmfgabPtV
import Derived.Test.YtkohmdhjjnmfgabGood
namespace Go.Proofs.Ytkohmdhjjnmfgab
open Go.RowKit
set_option linter.unusedSimpArgs false
set_option linter.unusedVariables false

theorem run_loadSpan (w : World) (g : Nat) (x y : Value) (hg : w.heap[g]? = some (.cells #[x, y] 99 (0, 0))) : (loadVar 99 ⟨g, 0, none⟩).run Try.prog w = .ok (.agg #[x, y]) w :=
  run_loadVar_row w g _ _ #[x, y] _ _ hg Try.underlying99 rfl (by kernel_rfl)

theorem results_span (tmps : Array Value) (w : World) (g : Nat) (x y : Value) (hg : w.heap[g]? = some (.cells #[x, y] 99 (0, 0))) (h2 : tmps.getD 4 undef = .pointer (some ⟨g, 0, none⟩)) :
    (results Try.f99 tmps).run Try.prog w = .ok (.agg #[x, y]) w := by
  have h2' : tmps[4]?.getD undef = .pointer (some ⟨g, 0, none⟩) := by simpa using h2
  have hr : Try.f99.results = #[.cell 4 99] := by kernel_rfl
  simp [results, hr, h2', asAddr, run_loadSpan w g x y hg]

def SpanOut (w : World) (a b : Int) (e : Ending) (w' : World) : Prop := e = .returned (.agg #[.int .i64 a, .int .i64 b]) ∧ Below w.heap.size w w'

theorem ret_span {x y a b : Int} (h1 : x = a) (h2 : y = b) : Ending.returned (.agg #[.int .i64 x, .int .i64 y]) = .returned (.agg #[.int .i64 a, .int .i64 b]) := by rw [h1, h2]

set_option maxHeartbeats 1000000 in
theorem spanOf_any (a b : Int) (w : World) :
    Calls Try.prog 99 #[.int .i64 a, .int .i64 b] w (SpanOut w (min a b) (max a b)) := by
  obtain ⟨m, hm⟩ : ∃ m, m = min a b := ⟨_, rfl⟩
  obtain ⟨M, hM⟩ : ∃ M, M = max a b := ⟨_, rfl⟩
  rw [← hm, ← hM]
  go_enter Try.func99, Try.ntmps99
  go_wp2
  all_goals exact bodyPost_ret (results_span _ _ w.heap.size _ _ (heap_alloc_new w _) rfl) rfl ⟨ret_span (by omega) (by omega), Below.alloc1 _ _⟩

set_option maxHeartbeats 1000000 in
theorem isOver_any (lo hi x : Int) (w : World) :
    Calls Try.prog 100 #[.agg #[.int .i64 lo, .int .i64 hi], .int .i64 x] w (Tells w (decide (lo < x ∧ x < hi))) := by
  obtain ⟨R, hR⟩ : ∃ R, decide (lo < x ∧ x < hi) = R := ⟨_, rfl⟩
  rw [hR]
  by_cases h1 : lo < x
  · by_cases h2 : x < hi
    · obtain rfl : R = true := by rw [← hR]; exact decide_eq_true ⟨h1, h2⟩
      clear hR
      go_enter Try.func100, Try.ntmps100
      go_wp2
      go_ret
      exact ⟨rfl, Below.alloc1 _ _⟩
    · obtain rfl : R = false := by rw [← hR]; exact decide_eq_false (fun h => h2 h.2)
      clear hR
      go_enter Try.func100, Try.ntmps100
      go_wp2
      go_ret
      exact ⟨rfl, Below.alloc1 _ _⟩
  · obtain rfl : R = false := by rw [← hR]; exact decide_eq_false (fun h => h1 h.1)
    clear hR
    go_enter Try.func100, Try.ntmps100
    go_wp2
    go_ret
    exact ⟨rfl, Below.alloc1 _ _⟩

set_option maxHeartbeats 2000000 in
theorem spanX_any (a b c d : Int) (w : World) :
    Calls Try.prog 91 #[.agg #[.int .i64 (min a b), .int .i64 (max a b)], .agg #[.int .i64 c, .int .i64 d]] w (Tells w (btwB a b c != btwB a b d)) := by
  have h1 := fun w => isOver_any (min a b) (max a b) c w
  have h2 := fun w => isOver_any (min a b) (max a b) d w
  unfold btwB
  generalize decide (min a b < c ∧ c < max a b) = x at h1 ⊢
  generalize decide (min a b < d ∧ d < max a b) = y at h2 ⊢
  have H1 := Lib.hid h1; have H2 := Lib.hid h2
  clear h1 h2
  generalize min a b = lo at *
  generalize max a b = hi at *
  have b1 := Below.alloc1 w (.cells #[.int .i64 lo, .int .i64 hi] 99)
  have b2 := Below.step b1 (Below.alloc1 _ (.cells #[.int .i64 c, .int .i64 d] 99))
  go_enter Try.func91, Try.ntmps91
  go_wp2_with fail
  go_region_held3 (fun w' => Hid (Below w.heap.size w w') ∧ w'.cell? ⟨w.heap.size, 0, none⟩ = some (.int .i64 lo) ∧ w'.cell? ⟨w.heap.size, 1, none⟩ = some (.int .i64 hi) ∧ w'.cell? ⟨w.heap.size + 1, 0, none⟩ = some (.int .i64 c) ∧ w'.cell? ⟨w.heap.size + 1, 1, none⟩ = some (.int .i64 d))
    (first | assumption | exact h4_start (by simp) (by simp) (by simp) (by simp) (Below.drew b2) | exact h4_keep (by assumption) (by assumption))
    (first
      | (go_at_call_of 100 (Value.int IntKind.i64 c); ((with_reducible refine (H1.out _).mono ?_); rintro e' w' ⟨rfl, hb'⟩))
      | (go_at_call_of 100 (Value.int IntKind.i64 d); ((with_reducible refine (H2.out _).mono ?_); rintro e' w' ⟨rfl, hb'⟩)))
  all_goals
    have hB : Below w.heap.size w w' := h4_out (by assumption)
    go_wp2
    go_ret
    exact ⟨rfl, hB⟩

end Go.Proofs.Ytkohmdhjjnmfgab
