/- InsertPair: the program's function, its last case and all. -/
import Derived.Test.YtaeeopdiodaiaaaInsTop
import Derived.Deep.RegionHeld3
namespace Go.Proofs.Ytaeeopdiodaiaaa
open Go.RowKit
set_option linter.unusedSimpArgs false
set_option linter.unusedVariables false

attribute [local go_sem ↓] lQ_eq lS_eq
set_option maxHeartbeats 2000000 in
set_option maxRecDepth 100000 in
theorem impl_ip_no4 (t b p q : List Int) (n m : Nat) (hlen : t.length ≤ 12 ∧ b.length ≤ 12 ∧ p.length ≤ 12 ∧ q.length ≤ 12) (hn : t.length = n) (hm : p.length = m) (x : Int) (w : World) (u1 u2 u3 u4 : Value) (s1 s2 s3 s4 : List Int) (h1 : Rd w u1 s1) (h2 : Rd w u2 s2) (h3 : Rd w u3 s3) (h4 : Rd w u4 s4)
    (hr1 : ∀ w, Rd w u1 s1 → Rd w u2 s2 → Calls Try.prog 44 #[.agg #[u1, u2]] w (PairOut w t b true)) (hr2 : ∀ w, Rd w u3 s3 → Rd w u4 s4 → Calls Try.prog 44 #[.agg #[u3, u4]] w (PairOut w p q true)) (hx0 : 0 ≤ x) (hx : (n : Int) < x) :
    Calls Try.prog 28 #[.agg #[u1, u2], .int .i64 x, .agg #[u3, u4]] w (GivesM w [] [] false) := by
  obtain ⟨hA, hX, hR, B3⟩ := ip_start w u1 u2 u3 u4
  have k0 := hA.c0; have k1 := hA.c1; have k2 := hX.c0; have k3 := hX.c1
  have HX := Lib.hid hX; have HR := Lib.hid hR; have HB := Lib.hid B3
  have H1 := Lib.hid (h1.below B3); have H2 := Lib.hid (h2.below B3); have H3 := Lib.hid (h3.below B3); have H4 := Lib.hid (h4.below B3)
  have HR1 := Lib.hid hr1; have HR2 := Lib.hid hr2; have HLEN := Lib.hid hlen
  have HSZ8 := Lib.hid (fun w => pairSize_any t b w); have HSZ10 := Lib.hid (fun w => pairSize_any p q w)
  rw [hn] at HSZ8
  rw [hm] at HSZ10
  obtain ⟨N, hN⟩ : ∃ N : Int, (n : Int) = N := ⟨_, rfl⟩
  rw [hN] at HSZ8 hx
  have hd0 : decide (x < 0) = false := decide_eq_false (by omega)
  have hd3 : ¬ (x < 0) := by omega
  have hd1 : decide (N < x) = true := decide_eq_true hx
  clear hN hx0
  clear hA hX hR B3 h1 h2 h3 h4 hr1 hr2 hlen hn hm HSZ10
  go_enter Try.func28, Try.ntmps28
  go_wp2_with fail
  refine (HR1.out _ H1.out H2.out).mono ?_
  rintro e w1 ⟨rfl, hb1⟩
  have HX1 := Lib.hid (HX.out.below hb1); have HRR1 := Lib.hid (HR.out.below hb1); have HB1 := Lib.hid (Below.step HB.out hb1); have H31 := Lib.hid (H3.out.below hb1); have H41 := Lib.hid (H4.out.below hb1)
  clear hb1 k0 k1 k2 k3
  go_wp2_with ((with_reducible refine wp_storePairN rfl (.tmp 8) (.tmp 15) rfl t b rfl rfl ?_); intro w2 hs2 hb2; have HP2 := Lib.hid hs2; have HX2 := Lib.hid (HX1.out.below hb2); have HRR2 := Lib.hid (HRR1.out.below hb2); have HB2 := Lib.hid (Below.step HB1.out hb2); have H32 := Lib.hid (H31.out.below hb2); have H42 := Lib.hid (H41.out.below hb2); have k2 := HX2.out.c0; have k3 := HX2.out.c1; clear hs2 hb2)
  refine (HR2.out _ H32.out H42.out).mono ?_
  rintro e w3 ⟨rfl, hb3⟩
  have HP3 := Lib.hid (HP2.out.below hb3); have HRR3 := Lib.hid (HRR2.out.below hb3); have HB3 := Lib.hid (Below.step HB2.out hb3)
  clear hb3 k2 k3
  go_wp2_with ((with_reducible refine wp_storePairN rfl (.tmp 10) (.tmp 20) rfl p q rfl rfl ?_); intro w4 hs4 hb4; have HQ4 := Lib.hid hs4; have HP4 := Lib.hid (HP3.out.below hb4); have HRR4 := Lib.hid (HRR3.out.below hb4); have HB4 := Lib.hid (Below.step HB3.out hb4); clear hs4 hb4)
  have hS4 : IpS w w1.heap.size w3.heap.size t b p q w4 := ⟨HP4.out, HQ4.out, ⟨_, _, HRR4.out⟩, HB4.out, by have := HRR1.out.lt; omega, by have := HRR3.out.lt; omega, HLEN.out⟩
  obtain ⟨P8, hP8⟩ : ∃ P, pairC t b = P := ⟨_, rfl⟩
  obtain ⟨P10, hP10⟩ : ∃ P, pairC p q = P := ⟨_, rfl⟩
  have HE8 := Lib.hid hP8; have HE10 := Lib.hid hP10
  rw [hP8] at HSZ8
  have hS := IpS.to3 hP8 hP10 (hS4.below (Below.refl w4.heap.size w4).drew)
  have HSF := Lib.hid (hS4.below (Below.refl w4.heap.size w4).drew)
  obtain ⟨r1, r2, hRR⟩ := HSF.out.R
  have q0 := hRR.c0; have q1 := hRR.c1; have q2 := hRR.free 0; have q3 := hRR.free 1
  have HRB := Lib.hid hRR; have HBB := Lib.hid HSF.out.bel
  generalize hg8 : w1.heap.size = g8 at *
  generalize hg10 : w3.heap.size = g10 at *
  clear hS4 hRR hP8 hP10 HX1 HRR1 HB1 H31 H41 HP2 HX2 HRR2 HB2 H32 H42 HP3 HRR3 HB3 HQ4 HP4 HRR4 HB4 HX HR HB H1 H2 H3 H4 HR1 HR2 hg8 hg10
  refine wp_region_held_drew (S := fun w' => Hid (IpS w g8 g10 t b p q w') ∧ (loadQ (.pointer (some ⟨g8, 0, none⟩))).run Try.prog w' = .ok (.agg P8) w' ∧ (loadQ (.pointer (some ⟨g10, 0, none⟩))).run Try.prog w' = .ok (.agg P10) w') (by kernel_rfl) hS (fun hHeld => ?_)
  clear hS
  refine wpAnyH_take (i := 0) (oi := { dst := some 22, op := _, type := _, pos := _, after := _, guard := _ }) (v := ?_) rfl (by kernel_rfl) (by kernel_rfl) (by kernel_rfl) (fun _ _ _ h => h) (Or.inl ⟨by rfl, ?_⟩) (by assumption) ?_
  rotate_left
  · (intro w' hSw; (try dsimp only at hSw); go_simp; try (with_reducible rfl))
  try simp only [Act.put, List.setIfInBounds_toArray, List.set_cons_zero, List.set_cons_succ]
  refine wpAnyH_take (i := 1) (oi := { dst := some 23, op := _, type := _, pos := _, after := _, guard := _ }) (v := ?_) rfl (by kernel_rfl) (by kernel_rfl) (by kernel_rfl) (fun _ _ _ h => h) (Or.inl ⟨by rfl, ?_⟩) (by assumption) ?_
  rotate_left
  · (intro w' hSw; (try dsimp only at hSw); go_simp; try (with_reducible rfl))
  try simp only [Act.put, List.setIfInBounds_toArray, List.set_cons_zero, List.set_cons_succ]
  refine wpAnyH_take (i := 2) (oi := { dst := some 24, op := _, type := _, pos := _, after := _, guard := _ }) (v := ?_) rfl (by kernel_rfl) (by kernel_rfl) (by kernel_rfl) (fun _ _ _ h => h) (Or.inl ⟨by rfl, ?_⟩) (by assumption) ?_
  rotate_left
  · (intro w' hSw; (try dsimp only at hSw); go_simp; try (with_reducible rfl))
  try simp only [Act.put, List.setIfInBounds_toArray, List.set_cons_zero, List.set_cons_succ]
  refine wpAnyH_take (i := 3) (oi := { dst := some 25, op := _, type := _, pos := _, after := _, guard := _ }) (v := ?_) rfl (by kernel_rfl) (by kernel_rfl) (by kernel_rfl) (fun _ _ _ h => h) (Or.inl ⟨by rfl, ?_⟩) (by assumption) ?_
  rotate_left
  · (intro w' hSw; (try dsimp only at hSw); go_simp; try (with_reducible rfl))
  try simp only [Act.put, List.setIfInBounds_toArray, List.set_cons_zero, List.set_cons_succ]
  refine wpAnyH_take (i := 4) (oi := { dst := some 26, op := _, type := _, pos := _, after := _, guard := _ }) (v := ?_) rfl (by kernel_rfl) (by kernel_rfl) (by kernel_rfl) (fun _ _ _ h => h) (Or.inl ⟨by rfl, ?_⟩) (by assumption) ?_
  rotate_left
  · (intro w' hSw; (try dsimp only at hSw); go_simp; try (with_reducible rfl))
  try simp only [Act.put, List.setIfInBounds_toArray, List.set_cons_zero, List.set_cons_succ]
  refine wpAnyH_take (i := 5) (oi := { dst := some 27, op := _, type := _, pos := _, after := _, guard := _ }) (v := ?_) rfl (by kernel_rfl) (by kernel_rfl) (by kernel_rfl) (fun _ _ _ h => h) (Or.inl ⟨by rfl, ?_⟩) (by assumption) ?_
  rotate_left
  · (intro w' hSw; (try dsimp only at hSw); go_simp; try (with_reducible rfl))
  try simp only [Act.put, List.setIfInBounds_toArray, List.set_cons_zero, List.set_cons_succ]
  refine wpAnyH_take (i := 6) (oi := { dst := some 28, op := _, type := _, pos := _, after := _, guard := _ }) (v := ?_) rfl (by kernel_rfl) (by kernel_rfl) (by kernel_rfl) (fun _ _ _ h => h) (Or.inl ⟨by rfl, ?_⟩) (by assumption) ?_
  rotate_left
  · (intro w' hSw; (try dsimp only at hSw); go_simp; try (with_reducible rfl))
  try simp only [Act.put, List.setIfInBounds_toArray, List.set_cons_zero, List.set_cons_succ]
  refine wpAnyH_take (i := 7) (oi := { dst := some 29, op := _, type := _, pos := _, after := _, guard := _ }) (v := ?_) rfl (by kernel_rfl) (by kernel_rfl) (by kernel_rfl) (fun _ _ _ h => h) (Or.inl ⟨by rfl, ?_⟩) (by assumption) ?_
  rotate_left
  · (intro w' hSw; (try dsimp only at hSw); go_simp; try (with_reducible rfl))
  try simp only [Act.put, List.setIfInBounds_toArray, List.set_cons_zero, List.set_cons_succ]
  refine wpAnyH_take (i := 8) (oi := { dst := some 30, op := _, type := _, pos := _, after := _, guard := _ }) (v := ?_) rfl (by kernel_rfl) (by kernel_rfl) (by kernel_rfl) (fun _ _ _ h => h) (Or.inl ⟨by rfl, ?_⟩) (by assumption) ?_
  rotate_left
  · (intro w' hSw; (try dsimp only at hSw); go_simp; try (with_reducible rfl))
  try simp only [Act.put, List.setIfInBounds_toArray, List.set_cons_zero, List.set_cons_succ]
  refine wpAnyH_take (i := 9) (oi := { dst := some 31, op := _, type := _, pos := _, after := _, guard := _ }) (v := ?_) rfl (by kernel_rfl) (by kernel_rfl) (by kernel_rfl) (fun _ _ _ h => h) (Or.inl ⟨by rfl, ?_⟩) (by assumption) ?_
  rotate_left
  · (intro w' hSw; (try dsimp only at hSw); go_simp; try (with_reducible rfl))
  try simp only [Act.put, List.setIfInBounds_toArray, List.set_cons_zero, List.set_cons_succ]
  refine wpAnyH_take (i := 10) (oi := { dst := some 32, op := _, type := _, pos := _, after := _, guard := _ }) (v := ?_) rfl (by kernel_rfl) (by kernel_rfl) (by kernel_rfl) (fun _ _ _ h => h) (Or.inl ⟨by rfl, ?_⟩) (by assumption) ?_
  rotate_left
  · (intro w' hSw; (try dsimp only at hSw); go_simp; try (with_reducible rfl))
  try simp only [Act.put, List.setIfInBounds_toArray, List.set_cons_zero, List.set_cons_succ]
  refine wpAnyH_take (i := 11) (oi := { dst := some 33, op := _, type := _, pos := _, after := _, guard := _ }) (v := ?_) rfl (by kernel_rfl) (by kernel_rfl) (by kernel_rfl) (fun _ _ _ h => h) (Or.inl ⟨by rfl, ?_⟩) (by assumption) ?_
  rotate_left
  · (intro w' hSw; (try dsimp only at hSw); go_simp; try (with_reducible rfl))
  try simp only [Act.put, List.setIfInBounds_toArray, List.set_cons_zero, List.set_cons_succ]
  refine wpAnyH_take (i := 12) (oi := { dst := some 34, op := _, type := _, pos := _, after := _, guard := _ }) (v := ?_) rfl (by kernel_rfl) (by kernel_rfl) (by kernel_rfl) (fun _ _ _ h => h) (Or.inl ⟨by rfl, ?_⟩) (by assumption) ?_
  rotate_left
  · (intro w' hSw; (try dsimp only at hSw); go_simp; try (with_reducible rfl))
  try simp only [Act.put, List.setIfInBounds_toArray, List.set_cons_zero, List.set_cons_succ]
  refine wpAnyH_ready (rs := [13]) (by kernel_rfl) (by simp) ?_
  refine AllReadyH.cons rfl (fun K hK => ?_) AllReadyH.nil
  go_simp
  go_at_call_of 48 (Value.agg P8)
  refine (HSZ8.out _).mono ?_
  rintro e w5 ⟨rfl, hb5⟩
  have HSF := Lib.hid (HSF.out.below hb5)
  obtain ⟨r1, r2, hRR⟩ := HSF.out.R
  have HRB := Lib.hid hRR; have HBB := Lib.hid HSF.out.bel
  clear q0 q1 q2 q3
  have q0 := hRR.c0; have q1 := hRR.c1; have q2 := hRR.free 0; have q3 := hRR.free 1
  clear hRR
  have hS2 := ip_keep3 HE8.out HE10.out hHeld hb5
  clear hHeld
  refine hK.out _ _ hS2 (fun hHeld => ?_)
  clear hK K hS2
  try simp only [Act.put, List.setIfInBounds_toArray, List.set_cons_zero, List.set_cons_succ]
  refine wpAnyH_take (i := 14) (oi := { dst := some 36, op := _, type := _, pos := _, after := _, guard := _ }) (v := ?_) rfl (by kernel_rfl) (by kernel_rfl) (by kernel_rfl) (fun _ _ _ h => h) (Or.inl ⟨by rfl, ?_⟩) (by assumption) ?_
  rotate_left
  · (intro w' hSw; (try dsimp only at hSw); go_simp; try (with_reducible rfl))
  try simp only [Act.put, List.setIfInBounds_toArray, List.set_cons_zero, List.set_cons_succ]
  refine wpAnyH_take (i := 15) (oi := { dst := some 37, op := _, type := _, pos := _, after := _, guard := _ }) (v := ?_) rfl (by kernel_rfl) (by kernel_rfl) (by kernel_rfl) (fun _ _ _ h => h) (Or.inl ⟨by rfl, ?_⟩) (by assumption) ?_
  rotate_left
  · (intro w' hSw; (try dsimp only at hSw); go_simp; try (with_reducible rfl))
  try simp only [Act.put, List.setIfInBounds_toArray, List.set_cons_zero, List.set_cons_succ]
  refine wpAnyH_take (i := 16) (oi := { dst := some 38, op := _, type := _, pos := _, after := _, guard := _ }) (v := ?_) rfl (by kernel_rfl) (by kernel_rfl) (by kernel_rfl) (fun _ _ _ h => h) (Or.inl ⟨by rfl, ?_⟩) (by assumption) ?_
  rotate_left
  · (intro w' hSw; (try dsimp only at hSw); go_simp; try (with_reducible rfl))
  try simp only [Act.put, List.setIfInBounds_toArray, List.set_cons_zero, List.set_cons_succ]
  refine wpAnyH_take (i := 17) (oi := { dst := some 39, op := _, type := _, pos := _, after := _, guard := _ }) (v := undef) rfl (by kernel_rfl) (by kernel_rfl) (by kernel_rfl) (fun _ _ _ h => h) (Or.inr ⟨by rfl, rfl⟩) (by assumption) ?_
  try simp only [Act.put, List.setIfInBounds_toArray, List.set_cons_zero, List.set_cons_succ]
  refine wpAnyH_take (i := 18) (oi := { dst := some 40, op := _, type := _, pos := _, after := _, guard := _ }) (v := undef) rfl (by kernel_rfl) (by kernel_rfl) (by kernel_rfl) (fun _ _ _ h => h) (Or.inr ⟨by rfl, rfl⟩) (by assumption) ?_
  try simp only [Act.put, List.setIfInBounds_toArray, List.set_cons_zero, List.set_cons_succ]
  refine wpAnyH_take (i := 19) (oi := { dst := some 41, op := _, type := _, pos := _, after := _, guard := _ }) (v := undef) rfl (by kernel_rfl) (by kernel_rfl) (by kernel_rfl) (fun _ _ _ h => h) (Or.inr ⟨by rfl, rfl⟩) (by assumption) ?_
  try simp only [Act.put, List.setIfInBounds_toArray, List.set_cons_zero, List.set_cons_succ]
  refine wpAnyH_take (i := 20) (oi := { dst := some 42, op := _, type := _, pos := _, after := _, guard := _ }) (v := undef) rfl (by kernel_rfl) (by kernel_rfl) (by kernel_rfl) (fun _ _ _ h => h) (Or.inr ⟨by rfl, rfl⟩) (by assumption) ?_
  try simp only [Act.put, List.setIfInBounds_toArray, List.set_cons_zero, List.set_cons_succ]
  refine wpAnyH_take (i := 21) (oi := { dst := some 43, op := _, type := _, pos := _, after := _, guard := _ }) (v := undef) rfl (by kernel_rfl) (by kernel_rfl) (by kernel_rfl) (fun _ _ _ h => h) (Or.inr ⟨by rfl, rfl⟩) (by assumption) ?_
  try simp only [Act.put, List.setIfInBounds_toArray, List.set_cons_zero, List.set_cons_succ]
  refine wpAnyH_take (i := 22) (oi := { dst := some 44, op := _, type := _, pos := _, after := _, guard := _ }) (v := undef) rfl (by kernel_rfl) (by kernel_rfl) (by kernel_rfl) (fun _ _ _ h => h) (Or.inr ⟨by rfl, rfl⟩) (by assumption) ?_
  try simp only [Act.put, List.setIfInBounds_toArray, List.set_cons_zero, List.set_cons_succ]
  refine wpAnyH_take (i := 23) (oi := { dst := some 45, op := _, type := _, pos := _, after := _, guard := _ }) (v := ?_) rfl (by kernel_rfl) (by kernel_rfl) (by kernel_rfl) (fun _ _ _ h => h) (Or.inl ⟨by rfl, ?_⟩) (by assumption) ?_
  rotate_left
  · (intro w' hSw; (try dsimp only at hSw); go_simp; try (with_reducible rfl))
  try simp only [Act.put, List.setIfInBounds_toArray, List.set_cons_zero, List.set_cons_succ]
  refine wpAnyH_done (by kernel_rfl) ?_ _
  clear hHeld
  all_goals
    go_wp2_with fail
    exact bodyPost_ret (results_iIP _ _ (w.heap.size + 1 + 1) _ _ false ((HRB.out.set0 _).set1 _) rfl rfl) rfl ⟨_, _, rfl, Own.nil _ _, Own.nil _ _, ApartV.nil _, (HBB.out.setCell (p := ⟨(w.heap.size + 1 + 1), 0, none⟩) (by show w.heap.size ≤ w.heap.size + 1 + 1; omega) _).setCell (p := ⟨(w.heap.size + 1 + 1), 1, none⟩) (by show w.heap.size ≤ w.heap.size + 1 + 1; omega) _⟩
theorem impl_InsertPair (t b : List Int) (x : Int) (p q : List Int) (w : World) (u1 u2 u3 u4 : Value) (h1 : Rd w u1 t) (h2 : Rd w u2 b) (h3 : Rd w u3 p) (h4 : Rd w u4 q) (m1 : t.length ≤ 1048576) (m2 : b.length ≤ 1048576) (m3 : p.length ≤ 1048576) (m4 : q.length ≤ 1048576) :
    Calls Try.prog 28 #[.agg #[u1, u2], .int .i64 x, .agg #[u3, u4]] w (GivesM w (res1_InsertPair t b x p q) (res2_InsertPair t b x p q) (ok_InsertPair t b x p q)) := by
  have ha1 := fun w h1 h2 => readPair_any t b w u1 u2 h1 h2
  have ha2 := fun w h1 h2 => readPair_any p q w u3 u4 h1 h2
  unfold res1_InsertPair res2_InsertPair
  have l4 : (if pairOk p q = true then p else []).length ≤ 12 ∧ (if pairOk p q = true then q else []).length ≤ 12 := by
    split
    · next h => exact pair12 (pairOk_good h)
    · exact ⟨Nat.zero_le _, Nat.zero_le _⟩
  cases e1 : pairOk t b with
  | false =>
    have e : ok_InsertPair t b x p q = false := by simp [ok_InsertPair, e1]
    rw [e]
    rw [e1] at ha1
    exact impl_ip_no1 [] [] _ _ _ _ _ ⟨Nat.zero_le _, Nat.zero_le _, l4.1, l4.2⟩ rfl rfl x w u1 u2 u3 u4 t b p q h1 h2 h3 h4 ha1 ha2
  | true =>
    have g1 := pairOk_good e1
    have k1 := pair12 g1
    rw [e1] at ha1
    cases e2 : pairOk p q with
    | false =>
      have e : ok_InsertPair t b x p q = false := by simp [ok_InsertPair, e2]
      rw [e]
      rw [e2] at ha2
      exact impl_ip_no2 t b [] [] _ _ ⟨k1.1, k1.2, Nat.zero_le _, Nat.zero_le _⟩ rfl rfl x w u1 u2 u3 u4 t b p q h1 h2 h3 h4 ha1 ha2
    | true =>
      have g2 := pairOk_good e2
      have k2 := pair12 g2
      rw [e2] at ha2
      by_cases h0 : x < 0
      · have e : ok_InsertPair t b x p q = false := by simp only [ok_InsertPair, decide_eq_false (show ¬ (0 ≤ x ∧ x ≤ (t.length : Int)) by omega), Bool.and_false, Bool.false_and]
        rw [e]
        exact impl_ip_no3 t b p q _ _ ⟨k1.1, k1.2, k2.1, k2.2⟩ rfl rfl x w u1 u2 u3 u4 t b p q h1 h2 h3 h4 ha1 ha2 h0
      · obtain ⟨k, rfl⟩ := Int.eq_ofNat_of_zero_le (by omega : 0 ≤ x)
        by_cases hx : k ≤ t.length
        · by_cases hl : t.length + p.length ≤ 12
          · have e : ok_InsertPair t b (k : Int) p q = true := by simp only [ok_InsertPair, e1, e2, decide_eq_true (show 0 ≤ (k : Int) ∧ (k : Int) ≤ (t.length : Int) by omega), decide_eq_true hl, Bool.and_self]
            rw [e]
            exact impl_ip_yes t b p q _ _ ⟨k1.1, k1.2, k2.1, k2.2⟩ rfl rfl k w u1 u2 u3 u4 t b p q h1 h2 h3 h4 ha1 ha2 g1.1 g1.2.1 g2.1 g2.2.1 g1.2.2.symm g2.2.2.symm hx hl
          · have e : ok_InsertPair t b (k : Int) p q = false := by simp only [ok_InsertPair, decide_eq_false hl, Bool.and_false]
            rw [e]
            exact impl_ip_no5 t b p q _ _ ⟨k1.1, k1.2, k2.1, k2.2⟩ rfl rfl k w u1 u2 u3 u4 t b p q h1 h2 h3 h4 ha1 ha2 hx (by omega)
        · have e : ok_InsertPair t b (k : Int) p q = false := by simp only [ok_InsertPair, decide_eq_false (show ¬ (0 ≤ (k : Int) ∧ (k : Int) ≤ (t.length : Int)) by omega), Bool.and_false, Bool.false_and]
          rw [e]
          exact impl_ip_no4 t b p q _ _ ⟨k1.1, k1.2, k2.1, k2.2⟩ rfl rfl (k : Int) w u1 u2 u3 u4 t b p q h1 h2 h3 h4 ha1 ha2 (by omega) (by omega)

end Go.Proofs.Ytaeeopdiodaiaaa
