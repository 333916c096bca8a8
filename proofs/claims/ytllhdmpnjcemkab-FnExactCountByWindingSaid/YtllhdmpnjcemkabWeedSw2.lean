/- A step that winds a seaweed down, by the model: rotations, contractions; all together. -/
import Derived.Test.YtllhdmpnjcemkabWeedSw
namespace Go.Proofs.Ytllhdmpnjcemkab
open Go.RowKit
set_option linter.unusedSimpArgs false
set_option linter.unusedVariables false

set_option maxHeartbeats 1500000 in
theorem swStep_R (u1 u2 : Value) (t b : List Int) (w : World) (h1 : Rd w u1 t) (h2 : Rd w u2 b) (t0 : 0 < t.length) (b0 : 0 < b.length) (hl1' : t.length ≤ 20) (hl2' : b.length ≤ 20) (hxb : 1 ≤ hdI t ∧ hdI t ≤ 20) (hyb : 1 ≤ hdI b ∧ hdI b ≤ 20) (hc : hdI b < hdI t) (hc' : hdI t < 2 * hdI b) :
    Calls Try.prog 33 #[.agg #[u1, u2]] w (MadeX w (hdI b :: t.tail) ((2 * hdI b - hdI t) :: b.tail) (letB 3)) := by
  have o1' : ∀ v (l : List Int) W, Rd w v l → l.length ≤ 1000 → Below w.heap.size w W → Calls Try.prog 52 #[v] W (Made W l) := fun v l W h hl hb => l1Own_any v l W (h.below hb) (by omega)
  have q1' : ∀ v s (l xs : List Int) W, Rd w v l → 0 < l.length → l.length ≤ 1000 → Below w.heap.size w W → Rd W s xs → xs.length ≤ 1000 → Calls Try.prog 53 #[v, s] W (Made W (xs ++ l.tail)) := fun v s l xs W h h0 hl hb hs hx => swPut_any v s l xs W (h.below hb) hs h0 hl hx
  have R1 := Lib.hid h1; have R2 := Lib.hid h2
  obtain ⟨x1, o1, d1, rfl, hl1, hm1, hc1⟩ := h1.at t0
  obtain ⟨x2, o2, d2, rfl, hl2, hm2, hc2⟩ := h2.at b0
  have hx1 := hc1 0 t0; have hy1 := hc2 0 b0
  rw [Nat.add_zero] at hx1 hy1
  have hk1 := World.block_lt_of_cell? w _ hx1; have hk2 := World.block_lt_of_cell? w _ hy1
  obtain ⟨n1, e1⟩ : ∃ n, t.length = n + 1 := ⟨t.length - 1, by omega⟩
  obtain ⟨n2, e2⟩ : ∃ n, b.length = n + 1 := ⟨b.length - 1, by omega⟩
  have G1 := Lib.hid (Rd.tail e1 hl1 hm1 hc1); have G2 := Lib.hid (Rd.tail e2 hl2 hm2 hc2)
  have T1 : Hid (t.length ≤ 1000 ∧ 0 < t.length ∧ t.tail.length ≤ 1000) := by refine ⟨by omega, by omega, ?_⟩; rw [List.length_tail]; omega
  have T2 : Hid (b.length ≤ 1000 ∧ 0 < b.length ∧ b.tail.length ≤ 1000) := by refine ⟨by omega, by omega, ?_⟩; rw [List.length_tail]; omega
  unfold maxLen at hm1 hm2
  rw [e1] at hl1 R1 ⊢; rw [e2] at hl2 R2 ⊢
  have HO := Lib.hid o1'; have HQ := Lib.hid q1'
  have HB2 := Lib.hid (below2 w (.cells #[.slice (some ⟨x1, o1, none⟩) (n1 + 1) d1, .slice (some ⟨x2, o2, none⟩) (n2 + 1) d2] 28) (.cells #[.slice none 0 0, .slice none 0 0] 28))
  have HA := Lib.hid (Box2.below (Box2.new 28 w (.slice (some ⟨x1, o1, none⟩) (n1 + 1) d1) (.slice (some ⟨x2, o2, none⟩) (n2 + 1) d2)) (Below.alloc1 _ (.cells #[.slice none 0 0, .slice none 0 0] 28)))
  have HR := Lib.hid (Box2.at1 28 w (.cells #[.slice (some ⟨x1, o1, none⟩) (n1 + 1) d1, .slice (some ⟨x2, o2, none⟩) (n2 + 1) d2] 28) (.slice none 0 0) (.slice none 0 0))
  clear h1 h2 hc1 hc2 o1' q1' hl1' hl2' t0 b0
  have hx1' : w.cell? ⟨x1, o1, none⟩ = some (.int .i64 (hdI t)) := hx1; clear hx1; have hx1 := hx1'; clear hx1'
  have hy1' : w.cell? ⟨x2, o2, none⟩ = some (.int .i64 (hdI b)) := hy1; clear hy1; have hy1 := hy1'; clear hy1'
  generalize hdI t = x at *
  generalize hdI b = y at *
  have i1 : (1 : Int) ≤ (n1 : Int) + 1 := by omega
  have i2 : (n1 : Int) + 1 ≤ (d1 : Int) := by omega
  have i3 : (1 : Int) ≤ (d1 : Int) := by omega
  have i4 : (0 : Int) ≤ (n1 : Int) + 1 := by omega
  have i5 : (0 : Int) ≤ (d1 : Int) := by omega
  have i6 : (1 : Int) ≤ (n2 : Int) + 1 := by omega
  have i7 : (n2 : Int) + 1 ≤ (d2 : Int) := by omega
  have i8 : (1 : Int) ≤ (d2 : Int) := by omega
  have i9 : (0 : Int) ≤ (n2 : Int) + 1 := by omega
  have i10 : (0 : Int) ≤ (d2 : Int) := by omega
  go_enter Try.func33, Try.ntmps33
  go_wp2_with fail
  generalize ((w.alloc (.cells #[.slice (some ⟨x1, o1, none⟩) (n1 + 1) d1, .slice (some ⟨x2, o2, none⟩) (n2 + 1) d2] 28)).alloc (.cells #[.slice none 0 0, .slice none 0 0] 28)) = W0 at *
  have p0 := HA.out.c0; have p1 := HA.out.c1
  have c0 := (HB2.out.cell hk1).trans hx1; have c1 := (HB2.out.cell hk2).trans hy1
  go_region
  have HB2 := Lib.hid (HB2.out.drew); have HA := Lib.hid (HA.out.below (Below.refl _ W0).drew); have HR := Lib.hid (HR.out.below (Below.refl _ W0).drew)
  clear p0 p1 c0 c1
  generalize W0.drew = W at *
  have p0 := HA.out.c0; have p1 := HA.out.c1
  have j1 : IntKind.i64.wrap (2 * y) = 2 * y := IntWalk.i64_in _ (by omega)
  have j2 : IntKind.i64.wrap (2 * y - x) = 2 * y - x := IntWalk.i64_in _ (by omega)
  go_wp2_with fail
  have hS : Hid (Below w.heap.size w W.drew) ∧ W.drew.cell? ⟨w.heap.size, 0, none⟩ = some (.slice (some ⟨x1, o1, none⟩) (n1 + 1) d1) ∧ W.drew.cell? ⟨w.heap.size, 1, none⟩ = some (.slice (some ⟨x2, o2, none⟩) (n2 + 1) d2) := ⟨HB2.out.drew, HA.out.c0, HA.out.c1⟩
  go_region_held3 (fun w' => Hid (Below w.heap.size w w') ∧ w'.cell? ⟨w.heap.size, 0, none⟩ = some (.slice (some ⟨x1, o1, none⟩) (n1 + 1) d1) ∧ w'.cell? ⟨w.heap.size, 1, none⟩ = some (.slice (some ⟨x2, o2, none⟩) (n2 + 1) d2))
    (first | assumption | exact s2_keep (by assumption) (by assumption) | exact s2_allocD (by assumption) _ | exact s2_alloc (by assumption) _ | exact s2_set (by assumption) _ _)
    (first
      | (go_at_call 53; ((with_reducible refine (HQ.out _ _ _ [y] _ R1.out T1.out.2.1 T1.out.1 (s2_out (by assumption)) (litD1 W y) (Nat.le_of_ble_eq_true rfl)).mono ?_); rintro e w1 ⟨v1, rfl, ho1, hb1⟩; obtain ⟨z1, y1, q1, rfl⟩ := ho1.form'; have HO1 := Lib.hid (Own.upD ho1); have HB4 := Lib.hid (Below.upD HB2.out hb1); have HR1 := Lib.hid (Box2.upD HR.out hb1); have HZ1 := Lib.hid (size_upD hb1); clear ho1))
      | (go_at_call 53; ((with_reducible refine (HQ.out _ _ _ [y] _ R1.out T1.out.2.1 T1.out.1 (s2_out (by assumption)) (litDD1a W y _) (Nat.le_of_ble_eq_true rfl)).mono ?_); rintro e w1 ⟨v1, rfl, ho1, hb1⟩; obtain ⟨z1, y1, q1, rfl⟩ := ho1.form'; have HO1 := Lib.hid (Own.upDD ho1); have HB4 := Lib.hid (Below.upDD HB2.out hb1); have HR1 := Lib.hid (Box2.upDD HR.out hb1); have HZ1 := Lib.hid (size_upDD hb1); have RZ := Lib.hid (Rd.below (litDD1b W (2 * y - x) _) hb1); clear ho1))
      | (go_at_call 53; ((with_reducible refine (HQ.out _ _ _ [y] _ R1.out T1.out.2.1 T1.out.1 (s2_out (by assumption)) (litDD1b W y _) (Nat.le_of_ble_eq_true rfl)).mono ?_); rintro e w1 ⟨v1, rfl, ho1, hb1⟩; obtain ⟨z1, y1, q1, rfl⟩ := ho1.form'; have HO1 := Lib.hid (Own.upDD ho1); have HB4 := Lib.hid (Below.upDD HB2.out hb1); have HR1 := Lib.hid (Box2.upDD HR.out hb1); have HZ1 := Lib.hid (size_upDD hb1); have RZ := Lib.hid (Rd.below (litDD1a W (2 * y - x) _) hb1); clear ho1))
      | (go_at_call 53; ((with_reducible refine (HQ.out _ _ _ [2 * y - x] _ R2.out T2.out.2.1 T2.out.1 (s2_out (by assumption)) RZ.out (Nat.le_of_ble_eq_true rfl)).mono ?_); rintro e w2 ⟨v2, rfl, ho2, hb2⟩; obtain ⟨z2, y2, q2, rfl⟩ := ho2.form'; have HP1 := Lib.hid (Own.below HO1.out hb2); have HP2 := Lib.hid (ho2.mono HZ1.out); have HB5 := Lib.hid (Below.step HB4.out hb2); have hR := (HR1.out.below hb2); have HAP := Lib.hid (apart_of HO1.out ho2 (Nat.le_refl _)); have r0 := hR.c0; have r1 := hR.c1; have r2 := hR.free 0; have r3 := hR.free 1; have HR4 := Lib.hid hR; clear ho2 hR))
      | (go_at_call 53; ((with_reducible refine (HQ.out _ _ _ [2 * y - x] _ R2.out T2.out.2.1 T2.out.1 (s2_out (by assumption)) (litS1 w1 (2 * y - x)) (Nat.le_of_ble_eq_true rfl)).mono ?_); rintro e w2 ⟨v2, rfl, ho2, hb2⟩; obtain ⟨z2, y2, q2, rfl⟩ := ho2.form'; have HP1 := Lib.hid (Own.below (Own.below HO1.out (Below.alloc1 w1 _)) hb2); have HP2 := Lib.hid (ho2.mono (Nat.le_trans HZ1.out (Nat.le_of_lt (alloc_lt w1 _)))); have HB5 := Lib.hid (Below.step (Below.allocS HB4.out _) hb2); have hR := ((HR1.out.below (Below.alloc1 w1 _)).below hb2); have HAP := Lib.hid (apart_of HO1.out ho2 (Nat.le_of_lt (alloc_lt w1 _))); have r0 := hR.c0; have r1 := hR.c1; have r2 := hR.free 0; have r3 := hR.free 1; have HR4 := Lib.hid hR; clear ho2 hR)))
  all_goals
    have HF := put_res HR4.out HP1.out HP2.out HAP.out HR.out.lt HB5.out
    go_wp2
    exact bodyPost_ret (results_sw _ _ (w.heap.size + 1) _ _ _ HF.out.1 rfl rfl) rfl ⟨_, _, rfl, HF.out.2.1, HF.out.2.2.1, HF.out.2.2.2.1, HF.out.2.2.2.2⟩
set_option maxHeartbeats 1500000 in
theorem swStep_P (u1 u2 : Value) (t b : List Int) (w : World) (h1 : Rd w u1 t) (h2 : Rd w u2 b) (t0 : 0 < t.length) (b0 : 0 < b.length) (hl1' : t.length ≤ 20) (hl2' : b.length ≤ 20) (hxb : 1 ≤ hdI t ∧ hdI t ≤ 20) (hyb : 1 ≤ hdI b ∧ hdI b ≤ 20) (hc : 2 * hdI b < hdI t) :
    Calls Try.prog 33 #[.agg #[u1, u2]] w (MadeX w ((hdI t - 2 * hdI b) :: hdI b :: t.tail) (b.tail) (letB 4)) := by
  have o1' : ∀ v (l : List Int) W, Rd w v l → l.length ≤ 1000 → Below w.heap.size w W → Calls Try.prog 52 #[v] W (Made W l) := fun v l W h hl hb => l1Own_any v l W (h.below hb) (by omega)
  have q1' : ∀ v s (l xs : List Int) W, Rd w v l → 0 < l.length → l.length ≤ 1000 → Below w.heap.size w W → Rd W s xs → xs.length ≤ 1000 → Calls Try.prog 53 #[v, s] W (Made W (xs ++ l.tail)) := fun v s l xs W h h0 hl hb hs hx => swPut_any v s l xs W (h.below hb) hs h0 hl hx
  have R1 := Lib.hid h1; have R2 := Lib.hid h2
  obtain ⟨x1, o1, d1, rfl, hl1, hm1, hc1⟩ := h1.at t0
  obtain ⟨x2, o2, d2, rfl, hl2, hm2, hc2⟩ := h2.at b0
  have hx1 := hc1 0 t0; have hy1 := hc2 0 b0
  rw [Nat.add_zero] at hx1 hy1
  have hk1 := World.block_lt_of_cell? w _ hx1; have hk2 := World.block_lt_of_cell? w _ hy1
  obtain ⟨n1, e1⟩ : ∃ n, t.length = n + 1 := ⟨t.length - 1, by omega⟩
  obtain ⟨n2, e2⟩ : ∃ n, b.length = n + 1 := ⟨b.length - 1, by omega⟩
  have G1 := Lib.hid (Rd.tail e1 hl1 hm1 hc1); have G2 := Lib.hid (Rd.tail e2 hl2 hm2 hc2)
  have T1 : Hid (t.length ≤ 1000 ∧ 0 < t.length ∧ t.tail.length ≤ 1000) := by refine ⟨by omega, by omega, ?_⟩; rw [List.length_tail]; omega
  have T2 : Hid (b.length ≤ 1000 ∧ 0 < b.length ∧ b.tail.length ≤ 1000) := by refine ⟨by omega, by omega, ?_⟩; rw [List.length_tail]; omega
  unfold maxLen at hm1 hm2
  rw [e1] at hl1 R1 ⊢; rw [e2] at hl2 R2 ⊢
  have HO := Lib.hid o1'; have HQ := Lib.hid q1'
  have HB2 := Lib.hid (below2 w (.cells #[.slice (some ⟨x1, o1, none⟩) (n1 + 1) d1, .slice (some ⟨x2, o2, none⟩) (n2 + 1) d2] 28) (.cells #[.slice none 0 0, .slice none 0 0] 28))
  have HA := Lib.hid (Box2.below (Box2.new 28 w (.slice (some ⟨x1, o1, none⟩) (n1 + 1) d1) (.slice (some ⟨x2, o2, none⟩) (n2 + 1) d2)) (Below.alloc1 _ (.cells #[.slice none 0 0, .slice none 0 0] 28)))
  have HR := Lib.hid (Box2.at1 28 w (.cells #[.slice (some ⟨x1, o1, none⟩) (n1 + 1) d1, .slice (some ⟨x2, o2, none⟩) (n2 + 1) d2] 28) (.slice none 0 0) (.slice none 0 0))
  clear h1 h2 hc1 hc2 o1' q1' hl1' hl2' t0 b0
  have hx1' : w.cell? ⟨x1, o1, none⟩ = some (.int .i64 (hdI t)) := hx1; clear hx1; have hx1 := hx1'; clear hx1'
  have hy1' : w.cell? ⟨x2, o2, none⟩ = some (.int .i64 (hdI b)) := hy1; clear hy1; have hy1 := hy1'; clear hy1'
  generalize hdI t = x at *
  generalize hdI b = y at *
  have i1 : (1 : Int) ≤ (n1 : Int) + 1 := by omega
  have i2 : (n1 : Int) + 1 ≤ (d1 : Int) := by omega
  have i3 : (1 : Int) ≤ (d1 : Int) := by omega
  have i4 : (0 : Int) ≤ (n1 : Int) + 1 := by omega
  have i5 : (0 : Int) ≤ (d1 : Int) := by omega
  have i6 : (1 : Int) ≤ (n2 : Int) + 1 := by omega
  have i7 : (n2 : Int) + 1 ≤ (d2 : Int) := by omega
  have i8 : (1 : Int) ≤ (d2 : Int) := by omega
  have i9 : (0 : Int) ≤ (n2 : Int) + 1 := by omega
  have i10 : (0 : Int) ≤ (d2 : Int) := by omega
  by_cases hd2 : d2 = 1
  · have K2 := Lib.hid (tail_one G2.out hd2); clear G2
    obtain rfl : n2 = 0 := by omega
    subst hd2
    simp only [Nat.zero_add] at HB2 HA HR R2 ⊢
    go_enter Try.func33, Try.ntmps33
    go_wp2_with fail
    generalize ((w.alloc (.cells #[.slice (some ⟨x1, o1, none⟩) (n1 + 1) d1, .slice (some ⟨x2, o2, none⟩) 1 1] 28)).alloc (.cells #[.slice none 0 0, .slice none 0 0] 28)) = W0 at *
    have p0 := HA.out.c0; have p1 := HA.out.c1
    have c0 := (HB2.out.cell hk1).trans hx1; have c1 := (HB2.out.cell hk2).trans hy1
    go_region
    have HB2 := Lib.hid (HB2.out.drew); have HA := Lib.hid (HA.out.below (Below.refl _ W0).drew); have HR := Lib.hid (HR.out.below (Below.refl _ W0).drew)
    clear p0 p1 c0 c1
    generalize W0.drew = W at *
    have p0 := HA.out.c0; have p1 := HA.out.c1
    have j1 : IntKind.i64.wrap (2 * y) = 2 * y := IntWalk.i64_in _ (by omega)
    have j2 : IntKind.i64.wrap (x - 2 * y) = x - 2 * y := IntWalk.i64_in _ (by omega)
    go_wp2_with fail
    have hS : Hid (Below w.heap.size w W.drew) ∧ W.drew.cell? ⟨w.heap.size, 0, none⟩ = some (.slice (some ⟨x1, o1, none⟩) (n1 + 1) d1) ∧ W.drew.cell? ⟨w.heap.size, 1, none⟩ = some (.slice (some ⟨x2, o2, none⟩) 1 1) := ⟨HB2.out.drew, HA.out.c0, HA.out.c1⟩
    go_region_held3 (fun w' => Hid (Below w.heap.size w w') ∧ w'.cell? ⟨w.heap.size, 0, none⟩ = some (.slice (some ⟨x1, o1, none⟩) (n1 + 1) d1) ∧ w'.cell? ⟨w.heap.size, 1, none⟩ = some (.slice (some ⟨x2, o2, none⟩) 1 1))
      (first | assumption | exact s2_keep (by assumption) (by assumption) | exact s2_allocD (by assumption) _ | exact s2_alloc (by assumption) _ | exact s2_set (by assumption) _ _)
      (first
        | (go_at_call 53; ((with_reducible refine (HQ.out _ _ _ [x - 2 * y, y] _ R1.out T1.out.2.1 T1.out.1 (s2_out (by assumption)) (litD2 W (x - 2 * y) y) (Nat.le_of_ble_eq_true rfl)).mono ?_); rintro e w1 ⟨v1, rfl, ho1, hb1⟩; obtain ⟨z1, y1, q1, rfl⟩ := ho1.form'; have HO1 := Lib.hid (Own.upD ho1); have HB4 := Lib.hid (Below.upD HB2.out hb1); have HR1 := Lib.hid (Box2.upD HR.out hb1); have HZ1 := Lib.hid (size_upD hb1); clear ho1))
        | (go_at_call 52; ((with_reducible refine (HO.out _ _ _ K2.out T2.out.2.2 (s2_out (by assumption))).mono ?_); rintro e w2 ⟨v2, rfl, ho2, hb2⟩; obtain ⟨z2, y2, q2, rfl⟩ := ho2.form'; have HP1 := Lib.hid (Own.below HO1.out hb2); have HP2 := Lib.hid (ho2.mono HZ1.out); have HB5 := Lib.hid (Below.step HB4.out hb2); have hR := (HR1.out.below hb2); have HAP := Lib.hid (apart_of HO1.out ho2 (Nat.le_refl _)); have r0 := hR.c0; have r1 := hR.c1; have r2 := hR.free 0; have r3 := hR.free 1; have HR4 := Lib.hid hR; clear ho2 hR)))
    all_goals
      have HF := put_res HR4.out HP1.out HP2.out HAP.out HR.out.lt HB5.out
      go_wp2
      exact bodyPost_ret (results_sw _ _ (w.heap.size + 1) _ _ _ HF.out.1 rfl rfl) rfl ⟨_, _, rfl, HF.out.2.1, HF.out.2.2.1, HF.out.2.2.2.1, HF.out.2.2.2.2⟩
  · have K2 := Lib.hid (tail_more G2.out hd2); clear G2
    go_enter Try.func33, Try.ntmps33
    go_wp2_with fail
    generalize ((w.alloc (.cells #[.slice (some ⟨x1, o1, none⟩) (n1 + 1) d1, .slice (some ⟨x2, o2, none⟩) (n2 + 1) d2] 28)).alloc (.cells #[.slice none 0 0, .slice none 0 0] 28)) = W0 at *
    have p0 := HA.out.c0; have p1 := HA.out.c1
    have c0 := (HB2.out.cell hk1).trans hx1; have c1 := (HB2.out.cell hk2).trans hy1
    go_region
    have HB2 := Lib.hid (HB2.out.drew); have HA := Lib.hid (HA.out.below (Below.refl _ W0).drew); have HR := Lib.hid (HR.out.below (Below.refl _ W0).drew)
    clear p0 p1 c0 c1
    generalize W0.drew = W at *
    have p0 := HA.out.c0; have p1 := HA.out.c1
    have j1 : IntKind.i64.wrap (2 * y) = 2 * y := IntWalk.i64_in _ (by omega)
    have j2 : IntKind.i64.wrap (x - 2 * y) = x - 2 * y := IntWalk.i64_in _ (by omega)
    go_wp2_with fail
    have hS : Hid (Below w.heap.size w W.drew) ∧ W.drew.cell? ⟨w.heap.size, 0, none⟩ = some (.slice (some ⟨x1, o1, none⟩) (n1 + 1) d1) ∧ W.drew.cell? ⟨w.heap.size, 1, none⟩ = some (.slice (some ⟨x2, o2, none⟩) (n2 + 1) d2) := ⟨HB2.out.drew, HA.out.c0, HA.out.c1⟩
    go_region_held3 (fun w' => Hid (Below w.heap.size w w') ∧ w'.cell? ⟨w.heap.size, 0, none⟩ = some (.slice (some ⟨x1, o1, none⟩) (n1 + 1) d1) ∧ w'.cell? ⟨w.heap.size, 1, none⟩ = some (.slice (some ⟨x2, o2, none⟩) (n2 + 1) d2))
      (first | assumption | exact s2_keep (by assumption) (by assumption) | exact s2_allocD (by assumption) _ | exact s2_alloc (by assumption) _ | exact s2_set (by assumption) _ _)
      (first
        | (go_at_call 53; ((with_reducible refine (HQ.out _ _ _ [x - 2 * y, y] _ R1.out T1.out.2.1 T1.out.1 (s2_out (by assumption)) (litD2 W (x - 2 * y) y) (Nat.le_of_ble_eq_true rfl)).mono ?_); rintro e w1 ⟨v1, rfl, ho1, hb1⟩; obtain ⟨z1, y1, q1, rfl⟩ := ho1.form'; have HO1 := Lib.hid (Own.upD ho1); have HB4 := Lib.hid (Below.upD HB2.out hb1); have HR1 := Lib.hid (Box2.upD HR.out hb1); have HZ1 := Lib.hid (size_upD hb1); clear ho1))
        | (go_at_call 52; ((with_reducible refine (HO.out _ _ _ K2.out T2.out.2.2 (s2_out (by assumption))).mono ?_); rintro e w2 ⟨v2, rfl, ho2, hb2⟩; obtain ⟨z2, y2, q2, rfl⟩ := ho2.form'; have HP1 := Lib.hid (Own.below HO1.out hb2); have HP2 := Lib.hid (ho2.mono HZ1.out); have HB5 := Lib.hid (Below.step HB4.out hb2); have hR := (HR1.out.below hb2); have HAP := Lib.hid (apart_of HO1.out ho2 (Nat.le_refl _)); have r0 := hR.c0; have r1 := hR.c1; have r2 := hR.free 0; have r3 := hR.free 1; have HR4 := Lib.hid hR; clear ho2 hR)))
    all_goals
      have HF := put_res HR4.out HP1.out HP2.out HAP.out HR.out.lt HB5.out
      go_wp2
      exact bodyPost_ret (results_sw _ _ (w.heap.size + 1) _ _ _ HF.out.1 rfl rfl) rfl ⟨_, _, rfl, HF.out.2.1, HF.out.2.2.1, HF.out.2.2.2.1, HF.out.2.2.2.2⟩
theorem swStep_any (u1 u2 : Value) (t b : List Int) (w : World) (h1 : Rd w u1 t) (h2 : Rd w u2 b) (h : weedB t b = true) (t0 : 0 < t.length) :
    Calls Try.prog 33 #[.agg #[u1, u2]] w (MadeX w (stepT t b) (stepB t b) (letB (stepN t b))) := by
  have hl := weed_lens h
  have b0 : 0 < b.length := by have := weed_empty h; omega
  have hx := parts_rng (weed_facts h).1 0 t0
  have hy := parts_rng (weed_facts h).2.1 0 b0
  unfold stepT stepB stepN
  by_cases c1 : hdI t < hdI b
  · rw [if_pos c1, if_pos c1, if_pos c1]; exact swStep_F u1 u2 t b w h1 h2 t0 b0 hl.1 hl.2 hx hy c1
  · rw [if_neg c1, if_neg c1, if_neg c1]
    by_cases c2 : hdI t = hdI b
    · rw [if_pos c2, if_pos c2, if_pos c2]; exact swStep_C u1 u2 t b w h1 h2 t0 b0 hl.1 hl.2 hx hy c2
    · rw [if_neg c2, if_neg c2, if_neg c2]
      by_cases c3 : hdI t = 2 * hdI b
      · rw [if_pos c3, if_pos c3, if_pos c3]; exact swStep_B u1 u2 t b w h1 h2 t0 b0 hl.1 hl.2 hx hy c3
      · rw [if_neg c3, if_neg c3, if_neg c3]
        by_cases c4 : hdI t < 2 * hdI b
        · rw [if_pos c4, if_pos c4, if_pos c4]; exact swStep_R u1 u2 t b w h1 h2 t0 b0 hl.1 hl.2 hx hy (by omega) c4
        · rw [if_neg c4, if_neg c4, if_neg c4]; exact swStep_P u1 u2 t b w h1 h2 t0 b0 hl.1 hl.2 hx hy (by omega)
end Go.Proofs.Ytllhdmpnjcemkab
