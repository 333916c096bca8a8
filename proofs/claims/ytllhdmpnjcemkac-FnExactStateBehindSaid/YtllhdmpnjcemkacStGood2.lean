/- The model's stGood and IsState. -/
/- MirrorState in the model. -/
import Derived.Test.YtllhdmpnjcemkacStGood
namespace Go.Proofs.Ytllhdmpnjcemkac
open Go.RowKit
set_option linter.unusedSimpArgs false
set_option linter.unusedVariables false

set_option maxHeartbeats 2000000 in
set_option maxRecDepth 100000 in
theorem stGood_a (v1 v2 : Value) (u d : List Int) (c : Int) (w : World) (h1 : Rd w v1 u) (h2 : Rd w v2 d) (hx : 6 < u.length) :
    Calls Try.prog 59 #[.agg #[v1, v2, .int .i64 c]] w (Tells w false) := by
  have q0 := hx
  have B1 : Below w.heap.size w (w.alloc (.cells #[v1, v2, .int .i64 c] 27)) := Below.alloc1 w _
  have hA := Box3.new 27 w v1 v2 (.int .i64 c)
  have k0 := hA.c0; have k1 := hA.c1; have k2 := hA.c2
  have H1 := Lib.hid (h1.below B1); have H2 := Lib.hid (h2.below B1); have HA := Lib.hid hA; have HB := Lib.hid B1
  obtain ⟨a1, c1, rfl, _⟩ := h1
  obtain ⟨a2, c2, rfl, _⟩ := h2
  obtain ⟨n1, hn1⟩ : ∃ n, n = u.length := ⟨_, rfl⟩
  obtain ⟨n2, hn2⟩ : ∃ n, n = d.length := ⟨_, rfl⟩
  have gu : 6 < (n1 : Int) := by omega
  have gu' : decide (6 < (n1 : Int)) = true := decide_eq_true gu
  rw [← hn1, ← hn2] at H1 H2 HA HB k0 k1 k2 ⊢
  clear hn1 hn2 B1 hA q0
  go_enter Try.func59, Try.ntmps59
  go_wp2
  all_goals
    go_ret
    first
      | exact ⟨rfl, HB3.out⟩
      | exact ⟨rfl, HB2.out⟩
      | exact ⟨rfl, HB.out⟩

set_option maxHeartbeats 2000000 in
set_option maxRecDepth 100000 in
theorem stGood_b (v1 v2 : Value) (u d : List Int) (c : Int) (w : World) (h1 : Rd w v1 u) (h2 : Rd w v2 d) (hx : u.length ≤ 6 ∧ 6 < d.length) :
    Calls Try.prog 59 #[.agg #[v1, v2, .int .i64 c]] w (Tells w false) := by
  obtain ⟨q0, q1⟩ := hx
  have B1 : Below w.heap.size w (w.alloc (.cells #[v1, v2, .int .i64 c] 27)) := Below.alloc1 w _
  have hA := Box3.new 27 w v1 v2 (.int .i64 c)
  have k0 := hA.c0; have k1 := hA.c1; have k2 := hA.c2
  have H1 := Lib.hid (h1.below B1); have H2 := Lib.hid (h2.below B1); have HA := Lib.hid hA; have HB := Lib.hid B1
  obtain ⟨a1, c1, rfl, _⟩ := h1
  obtain ⟨a2, c2, rfl, _⟩ := h2
  obtain ⟨n1, hn1⟩ : ∃ n, n = u.length := ⟨_, rfl⟩
  obtain ⟨n2, hn2⟩ : ∃ n, n = d.length := ⟨_, rfl⟩
  have gu : ¬ 6 < (n1 : Int) := by omega
  have gu' : decide (6 < (n1 : Int)) = false := decide_eq_false gu
  have gd : 6 < (n2 : Int) := by omega
  have gd' : decide (6 < (n2 : Int)) = true := decide_eq_true gd
  rw [← hn1, ← hn2] at H1 H2 HA HB k0 k1 k2 ⊢
  clear hn1 hn2 B1 hA q0 q1
  go_enter Try.func59, Try.ntmps59
  go_wp2
  all_goals
    go_ret
    first
      | exact ⟨rfl, HB3.out⟩
      | exact ⟨rfl, HB2.out⟩
      | exact ⟨rfl, HB.out⟩

set_option maxHeartbeats 2000000 in
set_option maxRecDepth 100000 in
theorem stGood_c (v1 v2 : Value) (u d : List Int) (c : Int) (w : World) (h1 : Rd w v1 u) (h2 : Rd w v2 d) (hx : u.length ≤ 6 ∧ d.length ≤ 6 ∧ inB c 0 6 = false) :
    Calls Try.prog 59 #[.agg #[v1, v2, .int .i64 c]] w (Tells w false) := by
  obtain ⟨q0, q1, q2⟩ := hx
  have B1 : Below w.heap.size w (w.alloc (.cells #[v1, v2, .int .i64 c] 27)) := Below.alloc1 w _
  have hA := Box3.new 27 w v1 v2 (.int .i64 c)
  have HC := Lib.hid q2
  have k0 := hA.c0; have k1 := hA.c1; have k2 := hA.c2
  have H1 := Lib.hid (h1.below B1); have H2 := Lib.hid (h2.below B1); have HA := Lib.hid hA; have HB := Lib.hid B1
  obtain ⟨a1, c1, rfl, _⟩ := h1
  obtain ⟨a2, c2, rfl, _⟩ := h2
  obtain ⟨n1, hn1⟩ : ∃ n, n = u.length := ⟨_, rfl⟩
  obtain ⟨n2, hn2⟩ : ∃ n, n = d.length := ⟨_, rfl⟩
  have gu : ¬ 6 < (n1 : Int) := by omega
  have gu' : decide (6 < (n1 : Int)) = false := decide_eq_false gu
  have gd : ¬ 6 < (n2 : Int) := by omega
  have gd' : decide (6 < (n2 : Int)) = false := decide_eq_false gd
  rw [← hn1, ← hn2] at H1 H2 HA HB k0 k1 k2 ⊢
  clear hn1 hn2 B1 hA q0 q1 q2
  go_enter Try.func59, Try.ntmps59
  go_wp2_with (first
    | (go_at_call 50; (with_reducible refine (l1In_b _ _ _ _).mono ?_); rintro e w' ⟨rfl, rfl⟩; rw [HC.out]))
  all_goals
    go_ret
    first
      | exact ⟨rfl, HB3.out⟩
      | exact ⟨rfl, HB2.out⟩
      | exact ⟨rfl, HB.out⟩

set_option maxHeartbeats 2000000 in
set_option maxRecDepth 100000 in
theorem stGood_d (v1 v2 : Value) (u d : List Int) (c : Int) (w : World) (h1 : Rd w v1 u) (h2 : Rd w v2 d) (hx : u.length ≤ 6 ∧ d.length ≤ 6 ∧ inB c 0 6 = true ∧ allFrom (fun i => inB (u.getD i 0) 0 6) 0 u.length = false) :
    Calls Try.prog 59 #[.agg #[v1, v2, .int .i64 c]] w (Tells w false) := by
  obtain ⟨q0, q1, q2, q3⟩ := hx
  have B1 : Below w.heap.size w (w.alloc (.cells #[v1, v2, .int .i64 c] 27)) := Below.alloc1 w _
  have hA := Box3.new 27 w v1 v2 (.int .i64 c)
  have HC := Lib.hid q2
  have k0 := hA.c0; have k1 := hA.c1; have k2 := hA.c2
  have H1 := Lib.hid (h1.below B1); have H2 := Lib.hid (h2.below B1); have HA := Lib.hid hA; have HB := Lib.hid B1
  obtain ⟨a1, c1, rfl, _⟩ := h1
  obtain ⟨a2, c2, rfl, _⟩ := h2
  have HALL1 := Lib.hid (fun w h => l1All_any (.slice a1 u.length c1) u 0 6 false w h q3)
  obtain ⟨n1, hn1⟩ : ∃ n, n = u.length := ⟨_, rfl⟩
  obtain ⟨n2, hn2⟩ : ∃ n, n = d.length := ⟨_, rfl⟩
  have gu : ¬ 6 < (n1 : Int) := by omega
  have gu' : decide (6 < (n1 : Int)) = false := decide_eq_false gu
  have gd : ¬ 6 < (n2 : Int) := by omega
  have gd' : decide (6 < (n2 : Int)) = false := decide_eq_false gd
  rw [← hn1, ← hn2] at H1 H2 HA HB k0 k1 k2 ⊢
  rw [← hn1] at HALL1
  clear hn1 hn2 B1 hA q0 q1 q2 q3
  go_enter Try.func59, Try.ntmps59
  go_wp2_with (first
    | (go_at_call 50; (with_reducible refine (l1In_b _ _ _ _).mono ?_); rintro e w' ⟨rfl, rfl⟩; rw [HC.out])
    | (go_at_call 83; (with_reducible refine (HALL1.out _ H1.out).mono ?_); rintro e w' ⟨rfl, rfl⟩))
  all_goals
    go_ret
    first
      | exact ⟨rfl, HB3.out⟩
      | exact ⟨rfl, HB2.out⟩
      | exact ⟨rfl, HB.out⟩

set_option maxHeartbeats 2000000 in
set_option maxRecDepth 100000 in
theorem stGood_e (v1 v2 : Value) (u d : List Int) (c : Int) (w : World) (h1 : Rd w v1 u) (h2 : Rd w v2 d) (hx : u.length ≤ 6 ∧ d.length ≤ 6 ∧ inB c 0 6 = true ∧ allFrom (fun i => inB (u.getD i 0) 0 6) 0 u.length = true ∧ allFrom (fun i => inB (d.getD i 0) 0 6) 0 d.length = false) :
    Calls Try.prog 59 #[.agg #[v1, v2, .int .i64 c]] w (Tells w false) := by
  obtain ⟨q0, q1, q2, q3, q4⟩ := hx
  have B1 : Below w.heap.size w (w.alloc (.cells #[v1, v2, .int .i64 c] 27)) := Below.alloc1 w _
  have hA := Box3.new 27 w v1 v2 (.int .i64 c)
  have HC := Lib.hid q2
  have k0 := hA.c0; have k1 := hA.c1; have k2 := hA.c2
  have H1 := Lib.hid (h1.below B1); have H2 := Lib.hid (h2.below B1); have HA := Lib.hid hA; have HB := Lib.hid B1
  obtain ⟨a1, c1, rfl, _⟩ := h1
  obtain ⟨a2, c2, rfl, _⟩ := h2
  have HALL1 := Lib.hid (fun w h => l1All_any (.slice a1 u.length c1) u 0 6 true w h q3)
  have HALL2 := Lib.hid (fun w h => l1All_any (.slice a2 d.length c2) d 0 6 false w h q4)
  obtain ⟨n1, hn1⟩ : ∃ n, n = u.length := ⟨_, rfl⟩
  obtain ⟨n2, hn2⟩ : ∃ n, n = d.length := ⟨_, rfl⟩
  have gu : ¬ 6 < (n1 : Int) := by omega
  have gu' : decide (6 < (n1 : Int)) = false := decide_eq_false gu
  have gd : ¬ 6 < (n2 : Int) := by omega
  have gd' : decide (6 < (n2 : Int)) = false := decide_eq_false gd
  rw [← hn1, ← hn2] at H1 H2 HA HB k0 k1 k2 ⊢
  rw [← hn1] at HALL1
  rw [← hn2] at HALL2
  clear hn1 hn2 B1 hA q0 q1 q2 q3 q4
  go_enter Try.func59, Try.ntmps59
  go_wp2_with (first
    | (go_at_call 50; (with_reducible refine (l1In_b _ _ _ _).mono ?_); rintro e w' ⟨rfl, rfl⟩; rw [HC.out])
    | (go_at_call 83; (with_reducible refine (HALL1.out _ H1.out).mono ?_); rintro e w' ⟨rfl, rfl⟩)
    | (go_at_call 83; (with_reducible refine (HALL2.out _ H2.out).mono ?_); rintro e w' ⟨rfl, rfl⟩))
  all_goals
    go_ret
    first
      | exact ⟨rfl, HB3.out⟩
      | exact ⟨rfl, HB2.out⟩
      | exact ⟨rfl, HB.out⟩

set_option maxHeartbeats 2000000 in
set_option maxRecDepth 100000 in
theorem stGood_f (v1 v2 : Value) (u d : List Int) (c : Int) (w : World) (h1 : Rd w v1 u) (h2 : Rd w v2 d) (hx : u.length ≤ 6 ∧ d.length ≤ 6 ∧ inB c 0 6 = true ∧ allFrom (fun i => inB (u.getD i 0) 0 6) 0 u.length = true ∧ allFrom (fun i => inB (d.getD i 0) 0 6) 0 d.length = true ∧ decide (renU u = u) = false) :
    Calls Try.prog 59 #[.agg #[v1, v2, .int .i64 c]] w (Tells w false) := by
  obtain ⟨q0, q1, q2, q3, q4, q5⟩ := hx
  have B1 : Below w.heap.size w (w.alloc (.cells #[v1, v2, .int .i64 c] 27)) := Below.alloc1 w _
  have hA := Box3.new 27 w v1 v2 (.int .i64 c)
  have hrn := fun w v1 v2 h1 h2 => stRename_any v1 v2 u d w h1 h2 (by omega) (by omega)
  have hs1 := fun w x v hx hv => l1Same_any x v (renU u) u w hx hv
  rw [q5] at hs1
  have HRN := Lib.hid hrn; have HS1 := Lib.hid hs1
  have HC := Lib.hid q2
  have k0 := hA.c0; have k1 := hA.c1; have k2 := hA.c2
  have H1 := Lib.hid (h1.below B1); have H2 := Lib.hid (h2.below B1); have HA := Lib.hid hA; have HB := Lib.hid B1
  obtain ⟨a1, c1, rfl, _⟩ := h1
  obtain ⟨a2, c2, rfl, _⟩ := h2
  have HALL1 := Lib.hid (fun w h => l1All_any (.slice a1 u.length c1) u 0 6 true w h q3)
  have HALL2 := Lib.hid (fun w h => l1All_any (.slice a2 d.length c2) d 0 6 true w h q4)
  obtain ⟨n1, hn1⟩ : ∃ n, n = u.length := ⟨_, rfl⟩
  obtain ⟨n2, hn2⟩ : ∃ n, n = d.length := ⟨_, rfl⟩
  have gu : ¬ 6 < (n1 : Int) := by omega
  have gu' : decide (6 < (n1 : Int)) = false := decide_eq_false gu
  have gd : ¬ 6 < (n2 : Int) := by omega
  have gd' : decide (6 < (n2 : Int)) = false := decide_eq_false gd
  rw [← hn1, ← hn2] at H1 H2 HA HB k0 k1 k2 ⊢
  rw [← hn1] at HALL1
  rw [← hn2] at HALL2
  clear hn1 hn2 B1 hA q0 q1 q2 q3 q4 q5 hrn hs1
  generalize renU u = ru at *
  generalize renD u d = rd at *
  go_enter Try.func59, Try.ntmps59
  go_wp2_with (first
    | (go_at_call 50; (with_reducible refine (l1In_b _ _ _ _).mono ?_); rintro e w' ⟨rfl, rfl⟩; rw [HC.out])
    | (go_at_call 83; (with_reducible refine (HALL1.out _ H1.out).mono ?_); rintro e w' ⟨rfl, rfl⟩)
    | (go_at_call 83; (with_reducible refine (HALL2.out _ H2.out).mono ?_); rintro e w' ⟨rfl, rfl⟩)
    | (go_at_call 75; ((with_reducible refine (HRN.out _ _ _ H1.out H2.out).mono ?_); rintro e w1 ⟨x1, x2, rfl, hx1, hx2, hb1⟩; have hA1 := HA.out.below hb1; have p0 := hA1.c0; have p1 := hA1.c1; have X1 := Lib.hid hx1.rd; have X2 := Lib.hid hx2.rd; have G1 := Lib.hid (H1.out.below hb1); have G2 := Lib.hid (H2.out.below hb1); have HA1' := Lib.hid hA1; have HB1 := Lib.hid (Below.step HB.out hb1); obtain ⟨f1, f2, f3, rfl⟩ := hx1.form'; obtain ⟨f4, f5, f6, rfl⟩ := hx2.form'; clear hx1 hx2 hb1 hA1))
    | (go_at_call 84; ((with_reducible refine (HS1.out _ _ _ X1.out G1.out).mono ?_); rintro e w2 ⟨rfl, hb2⟩; have hA2 := HA1'.out.below hb2; have q0 := hA2.c0; have q1 := hA2.c1; have HA2' := Lib.hid hA2; have X22 := Lib.hid (X2.out.below hb2); have G12 := Lib.hid (G1.out.below hb2); have G22 := Lib.hid (G2.out.below hb2); have HB2 := Lib.hid (Below.step HB1.out hb2); clear hb2 hA2)))
  all_goals
    go_ret
    first
      | exact ⟨rfl, HB3.out⟩
      | exact ⟨rfl, HB2.out⟩
      | exact ⟨rfl, HB.out⟩

set_option maxHeartbeats 2000000 in
set_option maxRecDepth 100000 in
theorem stGood_g (v1 v2 : Value) (u d : List Int) (c : Int) (w : World) (h1 : Rd w v1 u) (h2 : Rd w v2 d) (hx : u.length ≤ 6 ∧ d.length ≤ 6 ∧ inB c 0 6 = true ∧ allFrom (fun i => inB (u.getD i 0) 0 6) 0 u.length = true ∧ allFrom (fun i => inB (d.getD i 0) 0 6) 0 d.length = true ∧ decide (renU u = u) = true ∧ decide (renD u d = d) = false) :
    Calls Try.prog 59 #[.agg #[v1, v2, .int .i64 c]] w (Tells w false) := by
  obtain ⟨q0, q1, q2, q3, q4, q5, q6⟩ := hx
  have B1 : Below w.heap.size w (w.alloc (.cells #[v1, v2, .int .i64 c] 27)) := Below.alloc1 w _
  have hA := Box3.new 27 w v1 v2 (.int .i64 c)
  have hrn := fun w v1 v2 h1 h2 => stRename_any v1 v2 u d w h1 h2 (by omega) (by omega)
  have hs1 := fun w x v hx hv => l1Same_any x v (renU u) u w hx hv
  rw [q5] at hs1
  have HRN := Lib.hid hrn; have HS1 := Lib.hid hs1
  have hs2 := fun w x v hx hv => l1Same_any x v (renD u d) d w hx hv
  rw [q6] at hs2
  have HS2 := Lib.hid hs2
  have HC := Lib.hid q2
  have k0 := hA.c0; have k1 := hA.c1; have k2 := hA.c2
  have H1 := Lib.hid (h1.below B1); have H2 := Lib.hid (h2.below B1); have HA := Lib.hid hA; have HB := Lib.hid B1
  obtain ⟨a1, c1, rfl, _⟩ := h1
  obtain ⟨a2, c2, rfl, _⟩ := h2
  have HALL1 := Lib.hid (fun w h => l1All_any (.slice a1 u.length c1) u 0 6 true w h q3)
  have HALL2 := Lib.hid (fun w h => l1All_any (.slice a2 d.length c2) d 0 6 true w h q4)
  obtain ⟨n1, hn1⟩ : ∃ n, n = u.length := ⟨_, rfl⟩
  obtain ⟨n2, hn2⟩ : ∃ n, n = d.length := ⟨_, rfl⟩
  have gu : ¬ 6 < (n1 : Int) := by omega
  have gu' : decide (6 < (n1 : Int)) = false := decide_eq_false gu
  have gd : ¬ 6 < (n2 : Int) := by omega
  have gd' : decide (6 < (n2 : Int)) = false := decide_eq_false gd
  rw [← hn1, ← hn2] at H1 H2 HA HB k0 k1 k2 ⊢
  rw [← hn1] at HALL1
  rw [← hn2] at HALL2
  clear hn1 hn2 B1 hA q0 q1 q2 q3 q4 q5 q6 hrn hs1 hs2
  generalize renU u = ru at *
  generalize renD u d = rd at *
  go_enter Try.func59, Try.ntmps59
  go_wp2_with (first
    | (go_at_call 50; (with_reducible refine (l1In_b _ _ _ _).mono ?_); rintro e w' ⟨rfl, rfl⟩; rw [HC.out])
    | (go_at_call 83; (with_reducible refine (HALL1.out _ H1.out).mono ?_); rintro e w' ⟨rfl, rfl⟩)
    | (go_at_call 83; (with_reducible refine (HALL2.out _ H2.out).mono ?_); rintro e w' ⟨rfl, rfl⟩)
    | (go_at_call 75; ((with_reducible refine (HRN.out _ _ _ H1.out H2.out).mono ?_); rintro e w1 ⟨x1, x2, rfl, hx1, hx2, hb1⟩; have hA1 := HA.out.below hb1; have p0 := hA1.c0; have p1 := hA1.c1; have X1 := Lib.hid hx1.rd; have X2 := Lib.hid hx2.rd; have G1 := Lib.hid (H1.out.below hb1); have G2 := Lib.hid (H2.out.below hb1); have HA1' := Lib.hid hA1; have HB1 := Lib.hid (Below.step HB.out hb1); obtain ⟨f1, f2, f3, rfl⟩ := hx1.form'; obtain ⟨f4, f5, f6, rfl⟩ := hx2.form'; clear hx1 hx2 hb1 hA1))
    | (go_at_call 84; ((with_reducible refine (HS1.out _ _ _ X1.out G1.out).mono ?_); rintro e w2 ⟨rfl, hb2⟩; have hA2 := HA1'.out.below hb2; have q0 := hA2.c0; have q1 := hA2.c1; have HA2' := Lib.hid hA2; have X22 := Lib.hid (X2.out.below hb2); have G12 := Lib.hid (G1.out.below hb2); have G22 := Lib.hid (G2.out.below hb2); have HB2 := Lib.hid (Below.step HB1.out hb2); clear hb2 hA2))
    | (go_at_call 84; ((with_reducible refine (HS2.out _ _ _ X22.out G22.out).mono ?_); rintro e w3 ⟨rfl, hb3⟩; have hA3 := HA2'.out.below hb3; have s0 := hA3.c0; have s1 := hA3.c1; have s2 := hA3.c2; have G13 := Lib.hid (G12.out.below hb3); have G23 := Lib.hid (G22.out.below hb3); have HB3 := Lib.hid (Below.step HB2.out hb3); clear hb3 hA3)))
  all_goals
    go_ret
    first
      | exact ⟨rfl, HB3.out⟩
      | exact ⟨rfl, HB2.out⟩
      | exact ⟨rfl, HB.out⟩

theorem stGood_any (v1 v2 : Value) (u d : List Int) (c : Int) (w : World) (h1 : Rd w v1 u) (h2 : Rd w v2 d) :
    Calls Try.prog 59 #[.agg #[v1, v2, .int .i64 c]] w (Tells w (stateB u d c)) := by
  have small : stateB u d c = true → allFrom (fun i => inB (u.getD i 0) 0 6) 0 u.length = true ∧ allFrom (fun i => inB (d.getD i 0) 0 6) 0 d.length = true := by
    intro hs
    obtain ⟨s1, s2, _, s3, s4, s5, _⟩ := state_facts hs
    have hsm := ren_small s1 s2 s5
    rw [s3, s4] at hsm
    constructor
    · rw [allFrom_iff]
      intro i _ hi
      have hi' : i < u.length := by omega
      have := hsm u[i] (List.mem_append_left _ (List.getElem_mem hi'))
      unfold inB
      refine decide_eq_true ?_
      simp only [List.getD, List.getElem?_eq_getElem hi', Option.getD_some]
      omega
    · rw [allFrom_iff]
      intro i _ hi
      have hi' : i < d.length := by omega
      have := hsm d[i] (List.mem_append_right _ (List.getElem_mem hi'))
      unfold inB
      refine decide_eq_true ?_
      simp only [List.getD, List.getElem?_eq_getElem hi', Option.getD_some]
      omega
  have fls : stateB u d c ≠ true → stateB u d c = false := by cases stateB u d c <;> simp
  by_cases e1 : u.length ≤ 6
  · by_cases e2 : d.length ≤ 6
    · cases e3 : inB c 0 6 with
      | false =>
        rw [fls (fun hs => by unfold stateB at hs; rw [e3] at hs; simp at hs)]
        exact stGood_c v1 v2 u d c w h1 h2 ⟨e1, e2, e3⟩
      | true =>
        cases e4 : allFrom (fun i => inB (u.getD i 0) 0 6) 0 u.length with
        | false =>
          rw [fls (fun hs => by have := (small hs).1; rw [e4] at this; cases this)]
          exact stGood_d v1 v2 u d c w h1 h2 ⟨e1, e2, e3, e4⟩
        | true =>
          cases e5 : allFrom (fun i => inB (d.getD i 0) 0 6) 0 d.length with
          | false =>
            rw [fls (fun hs => by have := (small hs).2; rw [e5] at this; cases this)]
            exact stGood_e v1 v2 u d c w h1 h2 ⟨e1, e2, e3, e4, e5⟩
          | true =>
            by_cases e6 : renU u = u
            · by_cases e7 : renD u d = d
              · have he : stateB u d c = mdl [] [] (roundL u d) := by
                  rw [mdl_eq]
                  unfold stateB
                  rw [decide_eq_true e1, decide_eq_true e2, e3, decide_eq_true (And.intro e6 e7)]
                  rfl
                rw [he]
                exact stGood_loop v1 v2 u d c w h1 h2 e1 e2 e3 e4 e5 (decide_eq_true e6) (decide_eq_true e7)
              · rw [fls (fun hs => e7 (state_facts hs).2.2.2.2.1)]
                exact stGood_g v1 v2 u d c w h1 h2 ⟨e1, e2, e3, e4, e5, decide_eq_true e6, decide_eq_false e7⟩
            · rw [fls (fun hs => e6 (state_facts hs).2.2.2.1)]
              exact stGood_f v1 v2 u d c w h1 h2 ⟨e1, e2, e3, e4, e5, decide_eq_false e6⟩
    · rw [fls (fun hs => e2 (state_facts hs).2.1)]
      exact stGood_b v1 v2 u d c w h1 h2 ⟨e1, by omega⟩
  · rw [fls (fun hs => e1 (state_facts hs).1)]
    exact stGood_a v1 v2 u d c w h1 h2 (by omega)


end Go.Proofs.Ytllhdmpnjcemkac

namespace Go.Proofs.Ytllhdmpnjcemkac
open Go.RowKit
set_option linter.unusedSimpArgs false
set_option linter.unusedVariables false

def GivesSt (w : World) (t b : List Int) (c : Int) (ok : Bool) (e : Ending) (w' : World) : Prop := ∃ v1 v2, e = .returned (.tuple #[.agg #[v1, v2, .int .i64 c], .bool ok]) ∧ Own w.heap.size w' v1 t ∧ Own w.heap.size w' v2 b ∧ ApartS v1 v2 ∧ Below w.heap.size w w'
theorem ApartS.nil (v : Value) : ApartS (.slice none 0 0) v := fun k hk => by simp [Value.ownBlock] at hk
theorem run_loadSt (w : World) (g : Nat) (v1 v2 v3 : Value) (hg : Box3 27 w g v1 v2 v3) : (loadVar 27 ⟨g, 0, none⟩).run Try.prog w = .ok (.agg #[v1, v2, v3]) w :=
  run_loadVar_row w g _ _ #[v1, v2, v3] _ _ hg Try.underlying27 rfl (by rw [sta_info]; rfl)


end Go.Proofs.Ytllhdmpnjcemkac
