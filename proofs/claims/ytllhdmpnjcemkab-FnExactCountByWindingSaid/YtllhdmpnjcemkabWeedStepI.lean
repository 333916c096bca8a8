/- The step that comes next, and its letter, by the program. -/
import Derived.Test.YtllhdmpnjcemkabWeedSw2
namespace Go.Proofs.Ytllhdmpnjcemkab
open Go.RowKit
set_option linter.unusedSimpArgs false
set_option linter.unusedVariables false

/-- the step that comes next, as the program has it -/
def stepV (t b : List Int) : Value :=
  if hdI t < hdI b then .iface 92 (.agg #[])
  else if hdI t = hdI b then .iface 83 (.agg #[.int .i64 (hdI t)])
  else if hdI t = 2 * hdI b then .iface 96 (.agg #[.int .i64 (hdI b)])
  else if hdI t < 2 * hdI b then .iface 94 (.agg #[.int .i64 (hdI t), .int .i64 (hdI b)])
  else .iface 97 (.agg #[.int .i64 (hdI t), .int .i64 (hdI b)])
set_option maxHeartbeats 1000000 in
theorem step_any (u1 u2 : Value) (t b : List Int) (w : World) (h1 : Rd w u1 t) (h2 : Rd w u2 b) (h : weedB t b = true) (t0 : 0 < t.length) :
    Calls Try.prog 57 #[.agg #[u1, u2]] w fun e w' => e = .returned (stepV t b) ∧ Below w.heap.size w w' := by
  have hl := weed_lens h
  have b0 : 0 < b.length := by have := weed_empty h; omega
  have hxb := parts_rng (weed_facts h).1 0 t0
  have hyb := parts_rng (weed_facts h).2.1 0 b0
  have hA := Box2.new 51 w u1 u2
  have B1 : Below w.heap.size w (w.alloc (.cells #[u1, u2] 51)) := Below.alloc1 w _
  have p0 := hA.c0; have p1 := hA.c1
  obtain ⟨x1, o1, d1, rfl, hl1, hm1, hc1⟩ := h1.at t0
  obtain ⟨x2, o2, d2, rfl, hl2, hm2, hc2⟩ := h2.at b0
  have hx1 := hc1 0 t0; have hy1 := hc2 0 b0
  rw [Nat.add_zero] at hx1 hy1
  have c0 := (B1.cell (p := ⟨x1, o1, none⟩) (World.block_lt_of_cell? w _ hx1)).trans hx1
  have c1 := (B1.cell (p := ⟨x2, o2, none⟩) (World.block_lt_of_cell? w _ hy1)).trans hy1
  have HB := Lib.hid B1
  unfold stepV hdI
  clear hx1 hy1 h hA B1 hc1 hc2 h1 h2
  generalize t.length = m1 at *
  generalize b.length = m2 at *
  generalize t.getD 0 0 = x at *
  generalize b.getD 0 0 = y at *
  have j1 : IntKind.i64.wrap (2 * y) = 2 * y := IntWalk.i64_in _ (by omega)
  unfold maxLen at hm1 hm2
  by_cases q1 : x < y
  · rw [if_pos q1]
    go_enter Try.func57, Try.ntmps57
    go_wp2_with fail
    generalize (w.alloc (.cells #[.slice (some ⟨x1, o1, none⟩) m1 d1, .slice (some ⟨x2, o2, none⟩) m2 d2] 51)) = W at *
    go_region
    go_wp2
    go_ret
    exact ⟨rfl, HB.out.drew⟩
  · rw [if_neg q1]
    by_cases q2 : x = y
    · subst q2
      rw [if_pos rfl]
      go_enter Try.func57, Try.ntmps57
      go_wp2_with fail
      generalize (w.alloc (.cells #[.slice (some ⟨x1, o1, none⟩) m1 d1, .slice (some ⟨x2, o2, none⟩) m2 d2] 51)) = W at *
      go_region
      go_wp2
      go_ret
      exact ⟨rfl, HB.out.drew⟩
    · rw [if_neg q2]
      by_cases q3 : x = 2 * y
      · rw [if_pos q3]
        go_enter Try.func57, Try.ntmps57
        go_wp2_with fail
        generalize (w.alloc (.cells #[.slice (some ⟨x1, o1, none⟩) m1 d1, .slice (some ⟨x2, o2, none⟩) m2 d2] 51)) = W at *
        go_region
        go_wp2
        go_ret
        exact ⟨rfl, HB.out.drew⟩
      · rw [if_neg q3]
        by_cases q4 : x < 2 * y
        · rw [if_pos q4]
          go_enter Try.func57, Try.ntmps57
          go_wp2_with fail
          generalize (w.alloc (.cells #[.slice (some ⟨x1, o1, none⟩) m1 d1, .slice (some ⟨x2, o2, none⟩) m2 d2] 51)) = W at *
          go_region
          go_wp2
          go_ret
          exact ⟨rfl, HB.out.drew⟩
        · rw [if_neg q4]
          go_enter Try.func57, Try.ntmps57
          go_wp2_with fail
          generalize (w.alloc (.cells #[.slice (some ⟨x1, o1, none⟩) m1 d1, .slice (some ⟨x2, o2, none⟩) m2 d2] 51)) = W at *
          go_region
          go_wp2
          go_ret
          exact ⟨rfl, HB.out.drew⟩
end Go.Proofs.Ytllhdmpnjcemkab
