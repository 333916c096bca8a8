/- The step that comes next, and its letter, by the program. -/
import Derived.Test.YtllhdmpnjcemkaaWeedSw2
namespace Go.Proofs.Ytllhdmpnjcemkaa
open Go.RowKit
set_option linter.unusedSimpArgs false
set_option linter.unusedVariables false

/-- the step that comes next, as the program has it -/
def stepV (t b : List Int) : Value :=
  if hdI t < hdI b then .iface 60 (.agg #[])
  else if hdI t = hdI b then .iface 86 (.agg #[.int .i64 (hdI t)])
  else if hdI t = 2 * hdI b then .iface 90 (.agg #[.int .i64 (hdI b)])
  else if hdI t < 2 * hdI b then .iface 88 (.agg #[.int .i64 (hdI t), .int .i64 (hdI b)])
  else .iface 91 (.agg #[.int .i64 (hdI t), .int .i64 (hdI b)])
set_option maxHeartbeats 1000000 in
theorem step_any (u1 u2 : Value) (t b : List Int) (w : World) (h1 : Rd w u1 t) (h2 : Rd w u2 b) (h : weedB t b = true) (t0 : 0 < t.length) :
    Calls Try.prog 57 #[.agg #[u1, u2]] w fun e w' => e = .returned (stepV t b) ∧ Below w.heap.size w w' := by
  have hl := weed_lens h
  have b0 : 0 < b.length := by have := weed_empty h; omega
  have hxb := parts_rng (weed_facts h).1 0 t0
  have hyb := parts_rng (weed_facts h).2.1 0 b0
  have hA := Box2.new 53 w u1 u2
  have B1 : Below w.heap.size w (w.alloc (.cells #[u1, u2] 53)) := Below.alloc1 w _
  have p0 := hA.c0; have p1 := hA.c1
  obtain ⟨x1, o1, d1, rfl, hl1, hm1, hc1⟩ := h1.at t0
  obtain ⟨x2, o2, d2, rfl, hl2, hm2, hc2⟩ := h2.at b0
  have hx1 := hc1 0 t0; have hy1 := hc2 0 b0
  rw [Nat.add_zero] at hx1 hy1
  have c0 := (B1.cell (p := ⟨x1, o1, none⟩) (World.block_lt_of_cell? w _ hx1)).trans hx1
  have c1 := (B1.cell (p := ⟨x2, o2, none⟩) (World.block_lt_of_cell? w _ hy1)).trans hy1
  have HB := Lib.hid B1
  unfold stepV hdI
  clear hx1 hy1 h hA B1 hc1 hc2 h1 h2
  generalize t.length = m1 at *
  generalize b.length = m2 at *
  generalize t.getD 0 0 = x at *
  generalize b.getD 0 0 = y at *
  have j1 : IntKind.i64.wrap (2 * y) = 2 * y := IntWalk.i64_in _ (by omega)
  unfold maxLen at hm1 hm2
  by_cases q1 : x < y
  · rw [if_pos q1]
    go_enter Try.func57, Try.ntmps57
    go_wp2_with fail
    generalize (w.alloc (.cells #[.slice (some ⟨x1, o1, none⟩) m1 d1, .slice (some ⟨x2, o2, none⟩) m2 d2] 53)) = W at *
    go_region
    go_wp2
    go_ret
    exact ⟨rfl, HB.out.drew⟩
  · rw [if_neg q1]
    by_cases q2 : x = y
    · subst q2
      rw [if_pos rfl]
      go_enter Try.func57, Try.ntmps57
      go_wp2_with fail
      generalize (w.alloc (.cells #[.slice (some ⟨x1, o1, none⟩) m1 d1, .slice (some ⟨x2, o2, none⟩) m2 d2] 53)) = W at *
      go_region
      go_wp2
      go_ret
      exact ⟨rfl, HB.out.drew⟩
    · rw [if_neg q2]
      by_cases q3 : x = 2 * y
      · rw [if_pos q3]
        go_enter Try.func57, Try.ntmps57
        go_wp2_with fail
        generalize (w.alloc (.cells #[.slice (some ⟨x1, o1, none⟩) m1 d1, .slice (some ⟨x2, o2, none⟩) m2 d2] 53)) = W at *
        go_region
        go_wp2
        go_ret
        exact ⟨rfl, HB.out.drew⟩
      · rw [if_neg q3]
        by_cases q4 : x < 2 * y
        · rw [if_pos q4]
          go_enter Try.func57, Try.ntmps57
          go_wp2_with fail
          generalize (w.alloc (.cells #[.slice (some ⟨x1, o1, none⟩) m1 d1, .slice (some ⟨x2, o2, none⟩) m2 d2] 53)) = W at *
          go_region
          go_wp2
          go_ret
          exact ⟨rfl, HB.out.drew⟩
        · rw [if_neg q4]
          go_enter Try.func57, Try.ntmps57
          go_wp2_with fail
          generalize (w.alloc (.cells #[.slice (some ⟨x1, o1, none⟩) m1 d1, .slice (some ⟨x2, o2, none⟩) m2 d2] 53)) = W at *
          go_region
          go_wp2
          go_ret
          exact ⟨rfl, HB.out.drew⟩
theorem ta_yes_flip (v : Value) (xT : TypeId) (w : World) : (Instr.typeAssert (.iface 60 v) xT 60 true).run Try.prog w = .ok (.tuple #[v, .bool true]) w := by
  simp [Instr.typeAssert, run_underlying Try.underlying60]
theorem ta_yes_elimination (v : Value) (xT : TypeId) (w : World) : (Instr.typeAssert (.iface 86 v) xT 86 true).run Try.prog w = .ok (.tuple #[v, .bool true]) w := by
  simp [Instr.typeAssert, run_underlying Try.underlying86]
theorem ta_yes_blockElimination (v : Value) (xT : TypeId) (w : World) : (Instr.typeAssert (.iface 90 v) xT 90 true).run Try.prog w = .ok (.tuple #[v, .bool true]) w := by
  simp [Instr.typeAssert, run_underlying Try.underlying90]
theorem ta_yes_rotation (v : Value) (xT : TypeId) (w : World) : (Instr.typeAssert (.iface 88 v) xT 88 true).run Try.prog w = .ok (.tuple #[v, .bool true]) w := by
  simp [Instr.typeAssert, run_underlying Try.underlying88]
theorem zero_flip : (Try.prog.info? 60).map (·.zero) = some (some (.agg #[])) := by kernel_rfl
theorem zero_elimination : (Try.prog.info? 86).map (·.zero) = some (some (.agg #[.int .i64 0])) := by kernel_rfl
theorem zero_blockElimination : (Try.prog.info? 90).map (·.zero) = some (some (.agg #[.int .i64 0])) := by kernel_rfl
theorem zero_rotation : (Try.prog.info? 88).map (·.zero) = some (some (.agg #[.int .i64 0, .int .i64 0])) := by kernel_rfl
theorem ta_no_elimination_flip (v : Value) (xT : TypeId) (w : World) : (Instr.typeAssert (.iface 86 v) xT 60 true).run Try.prog w = .ok (.tuple #[.agg #[], .bool false]) w := by
  obtain ⟨j, hj, hz⟩ := Option.map_eq_some_iff.1 zero_flip
  simp [Instr.typeAssert, run_underlying Try.underlying60, zeroValue, typeInfo, hj, hz]
theorem ta_no_blockElimination_flip (v : Value) (xT : TypeId) (w : World) : (Instr.typeAssert (.iface 90 v) xT 60 true).run Try.prog w = .ok (.tuple #[.agg #[], .bool false]) w := by
  obtain ⟨j, hj, hz⟩ := Option.map_eq_some_iff.1 zero_flip
  simp [Instr.typeAssert, run_underlying Try.underlying60, zeroValue, typeInfo, hj, hz]
theorem ta_no_blockElimination_elimination (v : Value) (xT : TypeId) (w : World) : (Instr.typeAssert (.iface 90 v) xT 86 true).run Try.prog w = .ok (.tuple #[.agg #[.int .i64 0], .bool false]) w := by
  obtain ⟨j, hj, hz⟩ := Option.map_eq_some_iff.1 zero_elimination
  simp [Instr.typeAssert, run_underlying Try.underlying86, zeroValue, typeInfo, hj, hz]
theorem ta_no_rotation_flip (v : Value) (xT : TypeId) (w : World) : (Instr.typeAssert (.iface 88 v) xT 60 true).run Try.prog w = .ok (.tuple #[.agg #[], .bool false]) w := by
  obtain ⟨j, hj, hz⟩ := Option.map_eq_some_iff.1 zero_flip
  simp [Instr.typeAssert, run_underlying Try.underlying60, zeroValue, typeInfo, hj, hz]
theorem ta_no_rotation_elimination (v : Value) (xT : TypeId) (w : World) : (Instr.typeAssert (.iface 88 v) xT 86 true).run Try.prog w = .ok (.tuple #[.agg #[.int .i64 0], .bool false]) w := by
  obtain ⟨j, hj, hz⟩ := Option.map_eq_some_iff.1 zero_elimination
  simp [Instr.typeAssert, run_underlying Try.underlying86, zeroValue, typeInfo, hj, hz]
theorem ta_no_rotation_blockElimination (v : Value) (xT : TypeId) (w : World) : (Instr.typeAssert (.iface 88 v) xT 90 true).run Try.prog w = .ok (.tuple #[.agg #[.int .i64 0], .bool false]) w := by
  obtain ⟨j, hj, hz⟩ := Option.map_eq_some_iff.1 zero_blockElimination
  simp [Instr.typeAssert, run_underlying Try.underlying90, zeroValue, typeInfo, hj, hz]
theorem ta_no_contraction_flip (v : Value) (xT : TypeId) (w : World) : (Instr.typeAssert (.iface 91 v) xT 60 true).run Try.prog w = .ok (.tuple #[.agg #[], .bool false]) w := by
  obtain ⟨j, hj, hz⟩ := Option.map_eq_some_iff.1 zero_flip
  simp [Instr.typeAssert, run_underlying Try.underlying60, zeroValue, typeInfo, hj, hz]
theorem ta_no_contraction_elimination (v : Value) (xT : TypeId) (w : World) : (Instr.typeAssert (.iface 91 v) xT 86 true).run Try.prog w = .ok (.tuple #[.agg #[.int .i64 0], .bool false]) w := by
  obtain ⟨j, hj, hz⟩ := Option.map_eq_some_iff.1 zero_elimination
  simp [Instr.typeAssert, run_underlying Try.underlying86, zeroValue, typeInfo, hj, hz]
theorem ta_no_contraction_blockElimination (v : Value) (xT : TypeId) (w : World) : (Instr.typeAssert (.iface 91 v) xT 90 true).run Try.prog w = .ok (.tuple #[.agg #[.int .i64 0], .bool false]) w := by
  obtain ⟨j, hj, hz⟩ := Option.map_eq_some_iff.1 zero_blockElimination
  simp [Instr.typeAssert, run_underlying Try.underlying90, zeroValue, typeInfo, hj, hz]
theorem ta_no_contraction_rotation (v : Value) (xT : TypeId) (w : World) : (Instr.typeAssert (.iface 91 v) xT 88 true).run Try.prog w = .ok (.tuple #[.agg #[.int .i64 0, .int .i64 0], .bool false]) w := by
  obtain ⟨j, hj, hz⟩ := Option.map_eq_some_iff.1 zero_rotation
  simp [Instr.typeAssert, run_underlying Try.underlying88, zeroValue, typeInfo, hj, hz]
set_option maxHeartbeats 1000000 in
set_option maxRecDepth 100000 in
theorem letterOf_any (t b : List Int) (w : World) : Calls Try.prog 58 #[stepV t b] w fun e w' => e = .returned (.string (letB (stepN t b))) ∧ w = w' := by
  unfold stepV stepN
  by_cases q1 : hdI t < hdI b
  · rw [if_pos q1, if_pos q1]
    have y_flip := ta_yes_flip
    go_enter Try.func58, Try.ntmps58
    go_wp2
    go_ret
    exact ⟨rfl, rfl⟩
  · rw [if_neg q1, if_neg q1]
    by_cases q2 : hdI t = hdI b
    · rw [if_pos q2, if_pos q2]
      have n_flip := ta_no_elimination_flip
      have y_elimination := ta_yes_elimination
      go_enter Try.func58, Try.ntmps58
      go_wp2
      go_ret
      exact ⟨rfl, rfl⟩
    · rw [if_neg q2, if_neg q2]
      by_cases q3 : hdI t = 2 * hdI b
      · rw [if_pos q3, if_pos q3]
        have n_flip := ta_no_blockElimination_flip
        have n_elimination := ta_no_blockElimination_elimination
        have y_blockElimination := ta_yes_blockElimination
        go_enter Try.func58, Try.ntmps58
        go_wp2
        go_ret
        exact ⟨rfl, rfl⟩
      · rw [if_neg q3, if_neg q3]
        by_cases q4 : hdI t < 2 * hdI b
        · rw [if_pos q4, if_pos q4]
          have n_flip := ta_no_rotation_flip
          have n_elimination := ta_no_rotation_elimination
          have n_blockElimination := ta_no_rotation_blockElimination
          have y_rotation := ta_yes_rotation
          go_enter Try.func58, Try.ntmps58
          go_wp2
          go_ret
          exact ⟨rfl, rfl⟩
        · rw [if_neg q4, if_neg q4]
          have n_flip := ta_no_contraction_flip
          have n_elimination := ta_no_contraction_elimination
          have n_blockElimination := ta_no_contraction_blockElimination
          have n_rotation := ta_no_contraction_rotation
          go_enter Try.func58, Try.ntmps58
          go_wp2
          go_ret
          exact ⟨rfl, rfl⟩
end Go.Proofs.Ytllhdmpnjcemkaa
