/- Spans, and whether they cross. -/
import Derived.Test.YteeoepbbocdchaaGood
import Derived.Test.YteeoepbbocdchaaOwn
import Derived.RegionTactic
import Derived.BigRegion
import Derived.Deep.RegionHeld3
import Derived.Deep.RegionWith
namespace Go.Proofs.Yteeoepbbocdchaa
open Go.RowKit
set_option linter.unusedSimpArgs false
set_option linter.unusedVariables false

/-- two cells that stay -/
theorem h2_start {w0 w : World} {a b : Addr} {x y : Value} (h0 : w.cell? a = some x) (h1 : w.cell? b = some y) (hb : Below w0.heap.size w0 w) : Hid (Below w0.heap.size w0 w) ∧ w.cell? a = some x ∧ w.cell? b = some y := ⟨hb, h0, h1⟩
theorem h2_keep {w0 w1 w2 : World} {a b : Addr} {x y : Value} (h : Hid (Below w0.heap.size w0 w1) ∧ w1.cell? a = some x ∧ w1.cell? b = some y) (hb : Below w1.heap.size w1 w2) : Hid (Below w0.heap.size w0 w2) ∧ w2.cell? a = some x ∧ w2.cell? b = some y :=
  ⟨Below.step h.1.out hb, (hb.cell (World.block_lt_of_cell? w1 _ h.2.1)).trans h.2.1, (hb.cell (World.block_lt_of_cell? w1 _ h.2.2)).trans h.2.2⟩
theorem h2_out {w0 w1 : World} {a b : Addr} {x y : Value} (h : Hid (Below w0.heap.size w0 w1) ∧ w1.cell? a = some x ∧ w1.cell? b = some y) : Below w0.heap.size w0 w1 := h.1.out
/-- four cells that stay -/
theorem h4_start {w0 w : World} {a b c d : Addr} {x y z u : Value} (h0 : w.cell? a = some x) (h1 : w.cell? b = some y) (h2 : w.cell? c = some z) (h3 : w.cell? d = some u) (hb : Below w0.heap.size w0 w) : Hid (Below w0.heap.size w0 w) ∧ w.cell? a = some x ∧ w.cell? b = some y ∧ w.cell? c = some z ∧ w.cell? d = some u := ⟨hb, h0, h1, h2, h3⟩
theorem h4_keep {w0 w1 w2 : World} {a b c d : Addr} {x y z u : Value} (h : Hid (Below w0.heap.size w0 w1) ∧ w1.cell? a = some x ∧ w1.cell? b = some y ∧ w1.cell? c = some z ∧ w1.cell? d = some u) (hb : Below w1.heap.size w1 w2) : Hid (Below w0.heap.size w0 w2) ∧ w2.cell? a = some x ∧ w2.cell? b = some y ∧ w2.cell? c = some z ∧ w2.cell? d = some u :=
  ⟨Below.step h.1.out hb, (hb.cell (World.block_lt_of_cell? w1 _ h.2.1)).trans h.2.1, (hb.cell (World.block_lt_of_cell? w1 _ h.2.2.1)).trans h.2.2.1, (hb.cell (World.block_lt_of_cell? w1 _ h.2.2.2.1)).trans h.2.2.2.1, (hb.cell (World.block_lt_of_cell? w1 _ h.2.2.2.2)).trans h.2.2.2.2⟩
theorem h4_out {w0 w1 : World} {a b c d : Addr} {x y z u : Value} (h : Hid (Below w0.heap.size w0 w1) ∧ w1.cell? a = some x ∧ w1.cell? b = some y ∧ w1.cell? c = some z ∧ w1.cell? d = some u) : Below w0.heap.size w0 w1 := h.1.out


theorem run_loadSpan (w : World) (g : Nat) (x y : Value) (hg : w.heap[g]? = some (.cells #[x, y] 181 (0, 0))) : (loadVar 181 ⟨g, 0, none⟩).run Try.prog w = .ok (.agg #[x, y]) w :=
  run_loadVar_row w g _ _ #[x, y] _ _ hg Try.underlying181 rfl (by kernel_rfl)

theorem results_span (tmps : Array Value) (w : World) (g : Nat) (x y : Value) (hg : w.heap[g]? = some (.cells #[x, y] 181 (0, 0))) (h2 : tmps.getD 4 undef = .pointer (some ⟨g, 0, none⟩)) :
    (results Try.f195 tmps).run Try.prog w = .ok (.agg #[x, y]) w := by
  have h2' : tmps[4]?.getD undef = .pointer (some ⟨g, 0, none⟩) := by simpa using h2
  have hr : Try.f195.results = #[.cell 4 181] := by kernel_rfl
  simp [results, hr, h2', asAddr, run_loadSpan w g x y hg]

def SpanOut (w : World) (a b : Int) (e : Ending) (w' : World) : Prop := e = .returned (.agg #[.int .i64 a, .int .i64 b]) ∧ Below w.heap.size w w'

theorem ret_span {x y a b : Int} (h1 : x = a) (h2 : y = b) : Ending.returned (.agg #[.int .i64 x, .int .i64 y]) = .returned (.agg #[.int .i64 a, .int .i64 b]) := by rw [h1, h2]

set_option maxHeartbeats 1000000 in
theorem spanOf_any (a b : Int) (w : World) :
    Calls Try.prog 195 #[.int .i64 a, .int .i64 b] w (SpanOut w (min a b) (max a b)) := by
  obtain ⟨m, hm⟩ : ∃ m, m = min a b := ⟨_, rfl⟩
  obtain ⟨M, hM⟩ : ∃ M, M = max a b := ⟨_, rfl⟩
  rw [← hm, ← hM]
  go_enter Try.func195, Try.ntmps195
  go_wp2
  all_goals exact bodyPost_ret (results_span _ _ w.heap.size _ _ (heap_alloc_new w _) rfl) rfl ⟨ret_span (by omega) (by omega), Below.alloc1 _ _⟩

set_option maxHeartbeats 1000000 in
theorem isOver_any (lo hi x : Int) (w : World) :
    Calls Try.prog 196 #[.agg #[.int .i64 lo, .int .i64 hi], .int .i64 x] w (Tells w (decide (lo < x ∧ x < hi))) := by
  obtain ⟨R, hR⟩ : ∃ R, decide (lo < x ∧ x < hi) = R := ⟨_, rfl⟩
  rw [hR]
  by_cases h1 : lo < x
  · by_cases h2 : x < hi
    · obtain rfl : R = true := by rw [← hR]; exact decide_eq_true ⟨h1, h2⟩
      clear hR
      go_enter Try.func196, Try.ntmps196
      go_wp2
      go_ret
      exact ⟨rfl, Below.alloc1 _ _⟩
    · obtain rfl : R = false := by rw [← hR]; exact decide_eq_false (fun h => h2 h.2)
      clear hR
      go_enter Try.func196, Try.ntmps196
      go_wp2
      go_ret
      exact ⟨rfl, Below.alloc1 _ _⟩
  · obtain rfl : R = false := by rw [← hR]; exact decide_eq_false (fun h => h1 h.1)
    clear hR
    go_enter Try.func196, Try.ntmps196
    go_wp2
    go_ret
    exact ⟨rfl, Below.alloc1 _ _⟩

set_option maxHeartbeats 2000000 in
theorem spanY_any (lo hi c d : Int) (w : World) :
    Calls Try.prog 171 #[.agg #[.int .i64 lo, .int .i64 hi], .agg #[.int .i64 c, .int .i64 d]] w (Tells w (decide (lo < c ∧ c < hi) != decide (lo < d ∧ d < hi))) := by
  have h1 := fun w => isOver_any lo hi c w
  have h2 := fun w => isOver_any lo hi d w
  generalize decide (lo < c ∧ c < hi) = x at h1 ⊢
  generalize decide (lo < d ∧ d < hi) = y at h2 ⊢
  have H1 := Lib.hid h1; have H2 := Lib.hid h2
  clear h1 h2
  have b1 := Below.alloc1 w (.cells #[.int .i64 lo, .int .i64 hi] 181)
  have b2 := Below.step b1 (Below.alloc1 _ (.cells #[.int .i64 c, .int .i64 d] 181))
  go_enter Try.func171, Try.ntmps171
  go_wp2_with fail
  go_region_held3 (fun w' => Hid (Below w.heap.size w w') ∧ w'.cell? ⟨w.heap.size, 0, none⟩ = some (.int .i64 lo) ∧ w'.cell? ⟨w.heap.size, 1, none⟩ = some (.int .i64 hi) ∧ w'.cell? ⟨w.heap.size + 1, 0, none⟩ = some (.int .i64 c) ∧ w'.cell? ⟨w.heap.size + 1, 1, none⟩ = some (.int .i64 d))
    (first | assumption | exact h4_start (by simp) (by simp) (by simp) (by simp) (Below.drew b2) | exact h4_keep (by assumption) (by assumption))
    (first
      | (go_at_call_of 196 (Value.int IntKind.i64 c); ((with_reducible refine (H1.out _).mono ?_); rintro e' w' ⟨rfl, hb'⟩))
      | (go_at_call_of 196 (Value.int IntKind.i64 d); ((with_reducible refine (H2.out _).mono ?_); rintro e' w' ⟨rfl, hb'⟩)))
  all_goals
    have hB : Below w.heap.size w w' := h4_out (by assumption)
    go_wp2
    go_ret
    exact ⟨rfl, hB⟩

def SpIn (w : World) (g : Nat) (x y : Value) : Prop := w.heap[g]? = some (.cells #[x, y] 181 (0, 0))
theorem SpIn.lt {w : World} {g : Nat} {x y : Value} (h : SpIn w g x y) : g < w.heap.size := (Array.getElem?_eq_some_iff.1 h).1
theorem SpIn.below {w w' : World} {g : Nat} {x y : Value} (h : SpIn w g x y) (hb : Below w.heap.size w w') : SpIn w' g x y := (hb.block g h.lt).trans h
theorem SpIn.c0 {w : World} {g : Nat} {x y : Value} (h : SpIn w g x y) : w.cell? ⟨g, 0, none⟩ = some x := by rw [cell_of_row w g 0 _ _ _ h]; rfl
theorem SpIn.c1 {w : World} {g : Nat} {x y : Value} (h : SpIn w g x y) : w.cell? ⟨g, 1, none⟩ = some y := by rw [cell_of_row w g 1 _ _ _ h]; rfl
theorem SpIn.free {w : World} {g : Nat} {x y : Value} (h : SpIn w g x y) (k : Nat) : w.frozen? ⟨g, k, none⟩ = false := frozen_of_row w g k _ _ h
theorem SpIn.set {w : World} {g : Nat} {x y : Value} (h : SpIn w g x y) (a b : Value) : SpIn ((w.setCell ⟨g, 0, none⟩ a).setCell ⟨g, 1, none⟩ b) g a b := by
  have h1 := heap_setCell_same w g 0 _ _ a h
  have h2 := heap_setCell_same _ g 1 _ _ b h1
  exact h2
theorem sp_new (w : World) (o : Obj) : SpIn ((w.alloc o).alloc (.cells #[.int .i64 0, .int .i64 0] 181)) (w.heap.size + 1) (.int .i64 0) (.int .i64 0) := by
  have := heap_alloc_new (w.alloc o) (.cells #[.int .i64 0, .int .i64 0] 181)
  rw [World.size_alloc] at this
  exact this

theorem sp_behind {w w' : World} {o : Obj} (a b : Value) (hb : Below (((w.alloc o).alloc (.cells #[.int .i64 0, .int .i64 0] 181)).drew).heap.size (((w.alloc o).alloc (.cells #[.int .i64 0, .int .i64 0] 181)).drew) w') :
    w'.cell? ⟨w.heap.size + 1, 0, none⟩ = some (.int .i64 0) ∧ w'.cell? ⟨w.heap.size + 1, 1, none⟩ = some (.int .i64 0) ∧ w'.frozen? ⟨w.heap.size + 1, 0, none⟩ = false ∧ w'.frozen? ⟨w.heap.size + 1, 1, none⟩ = false ∧ Hid (SpIn ((w'.setCell ⟨w.heap.size + 1, 0, none⟩ a).setCell ⟨w.heap.size + 1, 1, none⟩ b) (w.heap.size + 1) a b) ∧ Hid (Below w.heap.size w ((w'.setCell ⟨w.heap.size + 1, 0, none⟩ a).setCell ⟨w.heap.size + 1, 1, none⟩ b)) := by
  have h0 : SpIn (((w.alloc o).alloc (.cells #[.int .i64 0, .int .i64 0] 181)).drew) (w.heap.size + 1) (.int .i64 0) (.int .i64 0) := sp_new w o
  have h1 := h0.below hb
  have b1 : Below w.heap.size w w' := Below.step (Below.drew (Below.step (Below.alloc1 w o) (Below.alloc1 _ _))) hb
  exact ⟨h1.c0, h1.c1, h1.free 0, h1.free 1, h1.set a b, (b1.setCell (p := ⟨w.heap.size + 1, 0, none⟩) (Nat.le_succ _) _).setCell (p := ⟨w.heap.size + 1, 1, none⟩) (Nat.le_succ _) _⟩


end Go.Proofs.Yteeoepbbocdchaa
