/- The product of all values to their exponents. -/
import Derived.Test.YtnkkgbecdckigabTab2
namespace Go.Proofs.Ytnkkgbecdckigab
open Go.RowKit
set_option linter.unusedSimpArgs false
set_option linter.unusedVariables false

set_option maxHeartbeats 1000000 in
theorem taAsked_any (n x : Int) (w : World) : Calls Try.prog 43 #[.int .i64 n, .int .i64 x] w (BoolOut w (asksB n x)) := by
  have h1 := fun w => l1In_any n 0 4 w
  have h2 := fun w => l1In_any x (-3) 3 w
  have h3 := fun w => l1In_any x (-2) 2 w
  unfold asksB
  generalize inB x (-3) 3 = b at *
  generalize inB x (-2) 2 = c at *
  generalize inB n 0 4 = a at *
  have H1 := Lib.hid h1; have H2 := Lib.hid h2; have H3 := Lib.hid h3
  clear h1 h2 h3
  cases a
  · go_enter Try.func43, Try.ntmps43
    go_wp2_with (go_at_call 36; (with_reducible refine (H1.out _).mono ?_); rintro e w' ⟨rfl, rfl⟩)
    go_ret
    exact ⟨rfl, rfl⟩
  · cases b
    · go_enter Try.func43, Try.ntmps43
      go_wp2_with (first
        | (go_at_call 36; (with_reducible refine (H1.out _).mono ?_); rintro e w' ⟨rfl, rfl⟩)
        | (go_at_call 36; (with_reducible refine (H2.out _).mono ?_); rintro e w' ⟨rfl, rfl⟩))
      go_ret
      exact ⟨rfl, rfl⟩
    · by_cases hn : n < 4
      · rw [decide_eq_true hn]
        go_enter Try.func43, Try.ntmps43
        go_wp2_with (first
          | (go_at_call 36; (with_reducible refine (H1.out _).mono ?_); rintro e w' ⟨rfl, rfl⟩)
          | (go_at_call 36; (with_reducible refine (H2.out _).mono ?_); rintro e w' ⟨rfl, rfl⟩))
        go_ret
        exact ⟨rfl, rfl⟩
      · rw [decide_eq_false hn]
        go_enter Try.func43, Try.ntmps43
        go_wp2_with (first
          | (go_at_call 36; (with_reducible refine (H1.out _).mono ?_); rintro e w' ⟨rfl, rfl⟩)
          | (go_at_call 36; (with_reducible refine (H2.out _).mono ?_); rintro e w' ⟨rfl, rfl⟩)
          | (go_at_call 36; (with_reducible refine (H3.out _).mono ?_); rintro e w' ⟨rfl, rfl⟩))
        go_ret
        have hd : decide (n < 4) = false := decide_eq_false (by omega)
        exact ⟨by simp only [hd]; cases c <;> rfl, rfl⟩
set_option maxHeartbeats 2000000 in
theorem impl_ProductDeterminant (n x : Int) (w : World) : Calls Try.prog 16 #[.int .i64 n, .int .i64 x] w (GivesN w (res_ProductDeterminant n x) (ok_ProductDeterminant n x)) := by
  have ha := fun w => isTableOf_any n x w
  cases hb : asksB n x with
  | false =>
    have e : ok_ProductDeterminant n x = false := by unfold ok_ProductDeterminant; rw [hb, Bool.and_false]
    rw [show res_ProductDeterminant n x = 0 by unfold res_ProductDeterminant; rw [e]; rfl, e]
    rw [hb] at ha
    have HA := Lib.hid ha
    clear ha e hb
    by_cases h1 : n < 1
    · go_enter Try.func16, Try.ntmps16
      go_wp2_with (go_at_call 45; (with_reducible refine (HA.out _).mono ?_); rintro e w' ⟨rfl, rfl⟩)
      all_goals
        go_ret2
        exact ⟨rfl, Below.refl _ _⟩
    · go_enter Try.func16, Try.ntmps16
      go_wp2_with (go_at_call 45; (with_reducible refine (HA.out _).mono ?_); rintro e w' ⟨rfl, rfl⟩)
      all_goals
        go_ret2
        exact ⟨rfl, Below.refl _ _⟩
  | true =>
    obtain ⟨f1, f2, f3, f4, _⟩ := asks_facts hb
    by_cases h1 : 1 ≤ n
    · have e : ok_ProductDeterminant n x = true := by unfold ok_ProductDeterminant; rw [hb, decide_eq_true (show n ≠ 0 by omega)]; rfl
      rw [show res_ProductDeterminant n x = prodU n x n.toNat by unfold res_ProductDeterminant; rw [e]; rfl, e]
      have HS := Lib.hid (fun (k : Nat) (hk : k < n.toNat) => small_facts hb h1 hk)
      rw [hb] at ha
      obtain ⟨m, rfl⟩ := Int.eq_ofNat_of_zero_le f1
      rw [show ((m : Nat) : Int).toNat = m by omega] at HS ⊢
      have HA := Lib.hid ha
      have HV := Lib.hid (fun (k : Nat) (hk : k < m) (w : World) => valueAt_any (k + 1) x w (by omega) f3 f4)
      have HE := Lib.hid (fun (k : Nat) (hk : k < m) (w : World) => exponentOf_any (m : Int) ((k : Int) + 1) w h1 f2 (by omega) (by omega))
      have hm0 : ((m : Int) == 0) = false := by rw [beq_eq_false_iff_ne]; omega
      clear ha e hb f3 f4
      go_enter Try.func16, Try.ntmps16
      go_wp2_with (go_at_call 45; (with_reducible refine (HA.out _).mono ?_); rintro e w' ⟨rfl, rfl⟩)
      go_loop [6, 7] (fun p i => ∃ k : Nat, k ≤ m ∧ i = .int .i64 ((k : Int) + 1) ∧ p = .int .i64 (prodU m x k)) (fun _ i => m + 1 - (intOf i).toNat)
      case atStart => exact ⟨0, by omega, rfl, rfl⟩
      case round =>
        obtain ⟨k, hk, rfl, rfl⟩ := hrel
        by_cases hlt : k < m
        · have hv := HV.out k hlt
          have hx := HE.out k hlt
          obtain ⟨⟨b1, b2⟩, ⟨b3, b4⟩, ⟨b5, b6⟩, hpw⟩ := HS.out k hlt
          rw [show ((k + 1 : Nat) : Int) = (k : Int) + 1 by omega] at hv
          have hnx : prodU m x k * uV x (k + 1) ^ (expo m ((k : Int) + 1)).toNat = prodU m x (k + 1) := rfl
          obtain ⟨q, hq⟩ := Int.eq_ofNat_of_zero_le b5
          rw [hq] at hx hpw hnx b6
          rw [show ((q : Nat) : Int).toNat = q by omega] at hpw hnx
          have hp := fun w => power_any (uV x (k + 1)) q w (by omega) hpw
          have hb := hpw q (Nat.le_refl _)
          have HV1 := Lib.hid hv; have HX1 := Lib.hid hx; have HP1 := Lib.hid hp
          rw [← hnx] at b3 b4
          generalize hz : prodU m x (k + 1) = z at hnx
          have HN := Lib.hid hnx
          generalize uV x (k + 1) ^ q = y at *
          generalize uV x (k + 1) = u at HV1 HP1
          generalize prodU m x k = p at *
          clear hv hx hpw hnx hp hq b5
          go_wp2_with (first
            | (go_at_call 39; (with_reducible refine (HV1.out _).mono ?_); rintro e w' ⟨rfl, rfl⟩)
            | (go_at_call 42; (with_reducible refine (HX1.out _).mono ?_); rintro e w' ⟨rfl, rfl⟩)
            | (go_at_call 46; (with_reducible refine (HP1.out _).mono ?_); rintro e w' ⟨rfl, rfl⟩))
          go_round
          case rel => exact ⟨k + 1, by omega, by go_num, by rw [HN.out, hz]⟩
          case measure => simp [intOf]; omega
        · obtain rfl : k = m := by omega
          go_wp2
          go_ret2
          exact ⟨rfl, Below.refl _ _⟩
    · obtain rfl : n = 0 := by omega
      have e : ok_ProductDeterminant 0 x = false := by unfold ok_ProductDeterminant; simp
      rw [show res_ProductDeterminant 0 x = 0 by unfold res_ProductDeterminant; rw [e]; rfl, e]
      clear ha e hb
      go_enter Try.func16, Try.ntmps16
      go_wp2
      go_ret2
      exact ⟨rfl, Below.refl _ _⟩
set_option maxHeartbeats 2000000 in
theorem spec_ProductDeterminant (n x : Int) (w : World) : Calls Try.prog 15 #[.int .i64 n, .int .i64 x] w (GivesN w (res_ProductDeterminant n x) (ok_ProductDeterminant n x)) := by
  have ha := fun w => taAsked_any n x w
  cases hb : asksB n x with
  | false =>
    have e : ok_ProductDeterminant n x = false := by unfold ok_ProductDeterminant; rw [hb, Bool.and_false]
    rw [show res_ProductDeterminant n x = 0 by unfold res_ProductDeterminant; rw [e]; rfl, e]
    rw [hb] at ha
    have HA := Lib.hid ha
    clear ha e hb
    by_cases h1 : n = 0
    · go_enter Try.func15, Try.ntmps15
      go_wp2_with (go_at_call 43; (with_reducible refine (HA.out _).mono ?_); rintro e w' ⟨rfl, rfl⟩)
      all_goals
        go_ret2
        exact ⟨rfl, Below.refl _ _⟩
    · go_enter Try.func15, Try.ntmps15
      go_wp2_with (go_at_call 43; (with_reducible refine (HA.out _).mono ?_); rintro e w' ⟨rfl, rfl⟩)
      all_goals
        go_ret2
        exact ⟨rfl, Below.refl _ _⟩
  | true =>
    obtain ⟨f1, f2, f3, f4, _⟩ := asks_facts hb
    by_cases h1 : 1 ≤ n
    · have e : ok_ProductDeterminant n x = true := by unfold ok_ProductDeterminant; rw [hb, decide_eq_true (show n ≠ 0 by omega)]; rfl
      rw [show res_ProductDeterminant n x = prodU n x n.toNat by unfold res_ProductDeterminant; rw [e]; rfl, e]
      have HS := Lib.hid (fun (k : Nat) (hk : k < n.toNat) => small_facts hb h1 hk)
      rw [hb] at ha
      obtain ⟨m, rfl⟩ := Int.eq_ofNat_of_zero_le f1
      rw [show ((m : Nat) : Int).toNat = m by omega] at HS ⊢
      have HA := Lib.hid ha
      have HV := Lib.hid (fun (k : Nat) (hk : k < m) (w : World) => taValue_any (k + 1) x w (by omega) f3 f4)
      have HE := Lib.hid (fun (k : Nat) (hk : k < m) (w : World) => taExponent_any (m : Int) ((k : Int) + 1) w h1 f2 (by omega) (by omega))
      have hm0 : ((m : Int) == 0) = false := by rw [beq_eq_false_iff_ne]; omega
      clear ha e hb f3 f4
      go_enter Try.func15, Try.ntmps15
      go_wp2_with (go_at_call 43; (with_reducible refine (HA.out _).mono ?_); rintro e w' ⟨rfl, rfl⟩)
      go_loop [6, 7] (fun p i => ∃ k : Nat, k ≤ m ∧ i = .int .i64 ((k : Int) + 1) ∧ p = .int .i64 (prodU m x k)) (fun _ i => m + 1 - (intOf i).toNat)
      case atStart => exact ⟨0, by omega, rfl, rfl⟩
      case round =>
        obtain ⟨k, hk, rfl, rfl⟩ := hrel
        by_cases hlt : k < m
        · have hv := HV.out k hlt
          have hx := HE.out k hlt
          obtain ⟨⟨b1, b2⟩, ⟨b3, b4⟩, ⟨b5, b6⟩, hpw⟩ := HS.out k hlt
          rw [show ((k + 1 : Nat) : Int) = (k : Int) + 1 by omega] at hv
          have hnx : prodU m x k * uV x (k + 1) ^ (expo m ((k : Int) + 1)).toNat = prodU m x (k + 1) := rfl
          obtain ⟨q, hq⟩ := Int.eq_ofNat_of_zero_le b5
          rw [hq] at hx hpw hnx b6
          rw [show ((q : Nat) : Int).toNat = q by omega] at hpw hnx
          have hp := fun w => taPower_any (uV x (k + 1)) q w (by omega) hpw
          have hb := hpw q (Nat.le_refl _)
          have HV1 := Lib.hid hv; have HX1 := Lib.hid hx; have HP1 := Lib.hid hp
          rw [← hnx] at b3 b4
          generalize hz : prodU m x (k + 1) = z at hnx
          have HN := Lib.hid hnx
          generalize uV x (k + 1) ^ q = y at *
          generalize uV x (k + 1) = u at HV1 HP1
          generalize prodU m x k = p at *
          clear hv hx hpw hnx hp hq b5
          go_wp2_with (first
            | (go_at_call 37; (with_reducible refine (HV1.out _).mono ?_); rintro e w' ⟨rfl, rfl⟩)
            | (go_at_call 40; (with_reducible refine (HX1.out _).mono ?_); rintro e w' ⟨rfl, rfl⟩)
            | (go_at_call 44; (with_reducible refine (HP1.out _).mono ?_); rintro e w' ⟨rfl, rfl⟩))
          go_round
          case rel => exact ⟨k + 1, by omega, by go_num, by rw [HN.out, hz]⟩
          case measure => simp [intOf]; omega
        · obtain rfl : k = m := by omega
          go_wp2
          go_ret2
          exact ⟨rfl, Below.refl _ _⟩
    · obtain rfl : n = 0 := by omega
      have e : ok_ProductDeterminant 0 x = false := by unfold ok_ProductDeterminant; simp
      rw [show res_ProductDeterminant 0 x = 0 by unfold res_ProductDeterminant; rw [e]; rfl, e]
      clear ha e hb
      go_enter Try.func15, Try.ntmps15
      go_wp2
      go_ret2
      exact ⟨rfl, Below.refl _ _⟩

end Go.Proofs.Ytnkkgbecdckigab
