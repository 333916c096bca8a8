/- The model's peOpen and peClosed; CrossingOf, IsPermutation, IsOpenPermutation in the model. -/
import Derived.Test.YteeoepbbocdchaaWdPeC
namespace Go.Proofs.Yteeoepbbocdchaa
open Go.RowKit
set_option linter.unusedSimpArgs false
set_option linter.unusedVariables false

set_option maxHeartbeats 1000000 in
theorem peCrossing_nil (v : Value) (w : World) (h : Rd w v []) :
    Calls Try.prog 89 #[v] w (Gives w (fcL (firstCrs [])) (firstCrs []).isSome) := by
  obtain ⟨a, c, rfl, hlc, hcm, hnc, hrd⟩ := h
  clear hlc hcm hnc hrd
  show Calls Try.prog 89 #[.slice a 0 c] w (Gives w [] false)
  go_enter Try.func89, Try.ntmps89
  go_wp2
  go_loopw [4] (fun jv wr => jv = .int .i64 0 ∧ wr = w) (fun jv _ => 0)
  case atStart => exact ⟨rfl, rfl⟩
  case round =>
    obtain ⟨rfl, rfl⟩ := hrel
    go_wp2
    go_ret2
    exact ⟨_, rfl, Own.nil _ _, Below.refl _ _⟩

theorem peCrossing_any (v : Value) (l : List Int) (w : World) (h : Rd w v l) (hl : l.length ≤ 12) :
    Calls Try.prog 89 #[v] w (Gives w (fcL (firstCrs l)) (firstCrs l).isSome) := by
  by_cases h1 : 1 ≤ l.length
  · exact peCrossing_run v l w h hl h1
  · obtain rfl : l = [] := List.length_eq_zero_iff.1 (by omega)
    exact peCrossing_nil v w h

theorem closed_open {l : List Int} (h : openB l = false) : closedB l = false := by unfold closedB; rw [h]; rfl
theorem closed_no {l : List Int} (h : closesB l = false) : closedB l = false := by unfold closedB; rw [h]; simp
theorem closes_len {l : List Int} (h : ¬ 2 ≤ l.length) : closesB l = false := by unfold closesB; rw [decide_eq_false h]; rfl
theorem closes_odd {l : List Int} (h : ¬ l.length % 2 = 0) : closesB l = false := by unfold closesB; rw [decide_eq_false h]; simp
theorem closes_first {l : List Int} (h : ¬ l.getD 0 0 = 0) : closesB l = false := by unfold closesB; rw [decide_eq_false h]; simp
theorem closes_row {l : List Int} (h1 : 2 ≤ l.length) (h2 : l.length % 2 = 0) (h3 : l.getD 0 0 = 0) : closesB l = clsRow l (l.length + 1) 1 := by unfold closesB; rw [decide_eq_true h1, decide_eq_true h2, decide_eq_true h3]; rfl
theorem open_word {l : List Int} (h : openB l = true) : wordB l = true := by unfold openB at h; simp at h; exact h.1

theorem closed_len {l : List Int} (h : closedB l = true) : l.length ≤ 12 := by unfold closedB at h; simp only [Bool.and_eq_true] at h; exact word_len (open_word h.1)



end Go.Proofs.Yteeoepbbocdchaa
