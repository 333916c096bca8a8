/- Exponents and products of values, in the program and in the model. -/
import Derived.Test.YtnkkgbecdckigabTab
namespace Go.Proofs.Ytnkkgbecdckigab
open Go.RowKit
set_option linter.unusedSimpArgs false
set_option linter.unusedVariables false

theorem four {m : Nat} (h1 : 1 ≤ m) (h2 : m ≤ 4) : m = 1 ∨ m = 2 ∨ m = 3 ∨ m = 4 := by omega
theorem upto3 {k : Nat} (h : k < 3) : k = 0 ∨ k = 1 ∨ k = 2 := by omega

set_option maxHeartbeats 1000000 in
theorem choices_any (m : Nat) (k : Int) (w : World) (h1 : 1 ≤ m) (h2 : m ≤ 4) (h3 : k ≤ 3) :
    Calls Try.prog 64 #[.int .i64 (2 * (m : Int)), .int .i64 k] w (IntOut w (chI (2 * m) k)) := by
  by_cases hk : k < 0
  · rw [chI_neg hk]
    go_enter Try.func64, Try.ntmps64
    go_wp2
    go_ret
    exact ⟨rfl, rfl⟩
  · obtain ⟨q, rfl⟩ := Int.eq_ofNat_of_zero_le (show 0 ≤ k by omega)
    rw [chI_nat]
    have hq : q ≤ 3 := by omega
    clear hk h3
    rcases four h1 h2 with rfl | rfl | rfl | rfl
    · clear h1 h2
      go_enter Try.func64, Try.ntmps64
      go_wp2
      go_loop [5, 10] (fun c i => ∃ k : Nat, k ≤ q ∧ i = .int .i64 k ∧ c = .int .i64 (bin 2 k)) (fun _ i => q - (intOf i).toNat)
      case atStart => exact ⟨0, by omega, rfl, rfl⟩
      case round =>
        obtain ⟨k, hk, rfl, rfl⟩ := hrel
        by_cases hlt : k < q
        · rcases upto3 (show k < 3 by omega) with rfl | rfl | rfl
          all_goals
            simp only [bin]
            go_wp2
            go_round
            case rel => exact ⟨_, hlt, rfl, rfl⟩
            case measure => simp [intOf]; omega
        · obtain rfl : k = q := by omega
          go_wp2
          go_ret
          exact ⟨rfl, rfl⟩
    · clear h1 h2
      go_enter Try.func64, Try.ntmps64
      go_wp2
      go_loop [5, 10] (fun c i => ∃ k : Nat, k ≤ q ∧ i = .int .i64 k ∧ c = .int .i64 (bin 4 k)) (fun _ i => q - (intOf i).toNat)
      case atStart => exact ⟨0, by omega, rfl, rfl⟩
      case round =>
        obtain ⟨k, hk, rfl, rfl⟩ := hrel
        by_cases hlt : k < q
        · rcases upto3 (show k < 3 by omega) with rfl | rfl | rfl
          all_goals
            simp only [bin]
            go_wp2
            go_round
            case rel => exact ⟨_, hlt, rfl, rfl⟩
            case measure => simp [intOf]; omega
        · obtain rfl : k = q := by omega
          go_wp2
          go_ret
          exact ⟨rfl, rfl⟩
    · clear h1 h2
      go_enter Try.func64, Try.ntmps64
      go_wp2
      go_loop [5, 10] (fun c i => ∃ k : Nat, k ≤ q ∧ i = .int .i64 k ∧ c = .int .i64 (bin 6 k)) (fun _ i => q - (intOf i).toNat)
      case atStart => exact ⟨0, by omega, rfl, rfl⟩
      case round =>
        obtain ⟨k, hk, rfl, rfl⟩ := hrel
        by_cases hlt : k < q
        · rcases upto3 (show k < 3 by omega) with rfl | rfl | rfl
          all_goals
            simp only [bin]
            go_wp2
            go_round
            case rel => exact ⟨_, hlt, rfl, rfl⟩
            case measure => simp [intOf]; omega
        · obtain rfl : k = q := by omega
          go_wp2
          go_ret
          exact ⟨rfl, rfl⟩
    · clear h1 h2
      go_enter Try.func64, Try.ntmps64
      go_wp2
      go_loop [5, 10] (fun c i => ∃ k : Nat, k ≤ q ∧ i = .int .i64 k ∧ c = .int .i64 (bin 8 k)) (fun _ i => q - (intOf i).toNat)
      case atStart => exact ⟨0, by omega, rfl, rfl⟩
      case round =>
        obtain ⟨k, hk, rfl, rfl⟩ := hrel
        by_cases hlt : k < q
        · rcases upto3 (show k < 3 by omega) with rfl | rfl | rfl
          all_goals
            simp only [bin]
            go_wp2
            go_round
            case rel => exact ⟨_, hlt, rfl, rfl⟩
            case measure => simp [intOf]; omega
        · obtain rfl : k = q := by omega
          go_wp2
          go_ret
          exact ⟨rfl, rfl⟩
set_option maxHeartbeats 1000000 in
theorem taChoose_any (m : Nat) (k : Int) (w : World) (h1 : 1 ≤ m) (h2 : m ≤ 4) (h3 : k < m) :
    Calls Try.prog 63 #[.int .i64 (2 * (m : Int)), .int .i64 k] w (IntOut w (chI (2 * m) k)) := by
  by_cases hk : k < 0
  · rw [chI_neg hk]
    go_enter Try.func63, Try.ntmps63
    go_wp2
    go_ret
    exact ⟨rfl, rfl⟩
  · obtain ⟨q, rfl⟩ := Int.eq_ofNat_of_zero_le (show 0 ≤ k by omega)
    rw [chI_nat]
    have hq : q < m := by omega
    clear hk h3
    rcases four h1 h2 with rfl | rfl | rfl | rfl
    · have hq2 : q = 0 := by omega
      clear h1 h2 hq
      obtain rfl := hq2
      go_enter Try.func63, Try.ntmps63
      go_wp2
      go_loop [5, 6] (fun c i => ∃ k : Nat, k ≤ 0 ∧ i = .int .i64 ((k : Int) + 1) ∧ c = .int .i64 (bin (2 + k) k)) (fun _ i => 0 + 1 - (intOf i).toNat)
      case atStart => exact ⟨0, by omega, rfl, rfl⟩
      case round =>
        obtain ⟨k, hk, rfl, rfl⟩ := hrel
        have hk2 : k = 0 := by omega
        obtain rfl := hk2
        simp only [bin]
        go_wp2
        go_ret
        exact ⟨rfl, rfl⟩
    · have hq2 : q = 0 ∨ q = 1 := by omega
      clear h1 h2 hq
      rcases hq2 with rfl | rfl
      · go_enter Try.func63, Try.ntmps63
        go_wp2
        go_loop [5, 6] (fun c i => ∃ k : Nat, k ≤ 0 ∧ i = .int .i64 ((k : Int) + 1) ∧ c = .int .i64 (bin (4 + k) k)) (fun _ i => 0 + 1 - (intOf i).toNat)
        case atStart => exact ⟨0, by omega, rfl, rfl⟩
        case round =>
          obtain ⟨k, hk, rfl, rfl⟩ := hrel
          have hk2 : k = 0 := by omega
          obtain rfl := hk2
          simp only [bin]
          go_wp2
          go_ret
          exact ⟨rfl, rfl⟩
      · go_enter Try.func63, Try.ntmps63
        go_wp2
        go_loop [5, 6] (fun c i => ∃ k : Nat, k ≤ 1 ∧ i = .int .i64 ((k : Int) + 1) ∧ c = .int .i64 (bin (3 + k) k)) (fun _ i => 1 + 1 - (intOf i).toNat)
        case atStart => exact ⟨0, by omega, rfl, rfl⟩
        case round =>
          obtain ⟨k, hk, rfl, rfl⟩ := hrel
          have hk2 : k = 0 ∨ k = 1 := by omega
          rcases hk2 with rfl | rfl
          · simp only [bin]
            go_wp2
            go_round
            case rel => exact ⟨1, by omega, rfl, rfl⟩
            case measure => simp [intOf]
          · simp only [bin]
            go_wp2
            go_ret
            exact ⟨rfl, rfl⟩
    · have hq2 : q = 0 ∨ q = 1 ∨ q = 2 := by omega
      clear h1 h2 hq
      rcases hq2 with rfl | rfl | rfl
      · go_enter Try.func63, Try.ntmps63
        go_wp2
        go_loop [5, 6] (fun c i => ∃ k : Nat, k ≤ 0 ∧ i = .int .i64 ((k : Int) + 1) ∧ c = .int .i64 (bin (6 + k) k)) (fun _ i => 0 + 1 - (intOf i).toNat)
        case atStart => exact ⟨0, by omega, rfl, rfl⟩
        case round =>
          obtain ⟨k, hk, rfl, rfl⟩ := hrel
          have hk2 : k = 0 := by omega
          obtain rfl := hk2
          simp only [bin]
          go_wp2
          go_ret
          exact ⟨rfl, rfl⟩
      · go_enter Try.func63, Try.ntmps63
        go_wp2
        go_loop [5, 6] (fun c i => ∃ k : Nat, k ≤ 1 ∧ i = .int .i64 ((k : Int) + 1) ∧ c = .int .i64 (bin (5 + k) k)) (fun _ i => 1 + 1 - (intOf i).toNat)
        case atStart => exact ⟨0, by omega, rfl, rfl⟩
        case round =>
          obtain ⟨k, hk, rfl, rfl⟩ := hrel
          have hk2 : k = 0 ∨ k = 1 := by omega
          rcases hk2 with rfl | rfl
          · simp only [bin]
            go_wp2
            go_round
            case rel => exact ⟨1, by omega, rfl, rfl⟩
            case measure => simp [intOf]
          · simp only [bin]
            go_wp2
            go_ret
            exact ⟨rfl, rfl⟩
      · go_enter Try.func63, Try.ntmps63
        go_wp2
        go_loop [5, 6] (fun c i => ∃ k : Nat, k ≤ 2 ∧ i = .int .i64 ((k : Int) + 1) ∧ c = .int .i64 (bin (4 + k) k)) (fun _ i => 2 + 1 - (intOf i).toNat)
        case atStart => exact ⟨0, by omega, rfl, rfl⟩
        case round =>
          obtain ⟨k, hk, rfl, rfl⟩ := hrel
          have hk2 : k = 0 ∨ k = 1 ∨ k = 2 := by omega
          rcases hk2 with rfl | rfl | rfl
          · simp only [bin]
            go_wp2
            go_round
            case rel => exact ⟨1, by omega, rfl, rfl⟩
            case measure => simp [intOf]
          · simp only [bin]
            go_wp2
            go_round
            case rel => exact ⟨2, by omega, rfl, rfl⟩
            case measure => simp [intOf]
          · simp only [bin]
            go_wp2
            go_ret
            exact ⟨rfl, rfl⟩
    · have hq2 : q = 0 ∨ q = 1 ∨ q = 2 ∨ q = 3 := by omega
      clear h1 h2 hq
      rcases hq2 with rfl | rfl | rfl | rfl
      · go_enter Try.func63, Try.ntmps63
        go_wp2
        go_loop [5, 6] (fun c i => ∃ k : Nat, k ≤ 0 ∧ i = .int .i64 ((k : Int) + 1) ∧ c = .int .i64 (bin (8 + k) k)) (fun _ i => 0 + 1 - (intOf i).toNat)
        case atStart => exact ⟨0, by omega, rfl, rfl⟩
        case round =>
          obtain ⟨k, hk, rfl, rfl⟩ := hrel
          have hk2 : k = 0 := by omega
          obtain rfl := hk2
          simp only [bin]
          go_wp2
          go_ret
          exact ⟨rfl, rfl⟩
      · go_enter Try.func63, Try.ntmps63
        go_wp2
        go_loop [5, 6] (fun c i => ∃ k : Nat, k ≤ 1 ∧ i = .int .i64 ((k : Int) + 1) ∧ c = .int .i64 (bin (7 + k) k)) (fun _ i => 1 + 1 - (intOf i).toNat)
        case atStart => exact ⟨0, by omega, rfl, rfl⟩
        case round =>
          obtain ⟨k, hk, rfl, rfl⟩ := hrel
          have hk2 : k = 0 ∨ k = 1 := by omega
          rcases hk2 with rfl | rfl
          · simp only [bin]
            go_wp2
            go_round
            case rel => exact ⟨1, by omega, rfl, rfl⟩
            case measure => simp [intOf]
          · simp only [bin]
            go_wp2
            go_ret
            exact ⟨rfl, rfl⟩
      · go_enter Try.func63, Try.ntmps63
        go_wp2
        go_loop [5, 6] (fun c i => ∃ k : Nat, k ≤ 2 ∧ i = .int .i64 ((k : Int) + 1) ∧ c = .int .i64 (bin (6 + k) k)) (fun _ i => 2 + 1 - (intOf i).toNat)
        case atStart => exact ⟨0, by omega, rfl, rfl⟩
        case round =>
          obtain ⟨k, hk, rfl, rfl⟩ := hrel
          have hk2 : k = 0 ∨ k = 1 ∨ k = 2 := by omega
          rcases hk2 with rfl | rfl | rfl
          · simp only [bin]
            go_wp2
            go_round
            case rel => exact ⟨1, by omega, rfl, rfl⟩
            case measure => simp [intOf]
          · simp only [bin]
            go_wp2
            go_round
            case rel => exact ⟨2, by omega, rfl, rfl⟩
            case measure => simp [intOf]
          · simp only [bin]
            go_wp2
            go_ret
            exact ⟨rfl, rfl⟩
      · go_enter Try.func63, Try.ntmps63
        go_wp2
        go_loop [5, 6] (fun c i => ∃ k : Nat, k ≤ 3 ∧ i = .int .i64 ((k : Int) + 1) ∧ c = .int .i64 (bin (5 + k) k)) (fun _ i => 3 + 1 - (intOf i).toNat)
        case atStart => exact ⟨0, by omega, rfl, rfl⟩
        case round =>
          obtain ⟨k, hk, rfl, rfl⟩ := hrel
          have hk2 : k = 0 ∨ k = 1 ∨ k = 2 ∨ k = 3 := by omega
          rcases hk2 with rfl | rfl | rfl | rfl
          · simp only [bin]
            go_wp2
            go_round
            case rel => exact ⟨1, by omega, rfl, rfl⟩
            case measure => simp [intOf]
          · simp only [bin]
            go_wp2
            go_round
            case rel => exact ⟨2, by omega, rfl, rfl⟩
            case measure => simp [intOf]
          · simp only [bin]
            go_wp2
            go_round
            case rel => exact ⟨3, by omega, rfl, rfl⟩
            case measure => simp [intOf]
          · simp only [bin]
            go_wp2
            go_ret
            exact ⟨rfl, rfl⟩
theorem chI_args {n : Nat} {k : Int} (c : Int) : chI (2 * n) c = chI (2 * (n : Int)).toNat c := by rw [show (2 * (n : Int)).toNat = 2 * n by omega]
set_option maxHeartbeats 1000000 in
theorem exponentOf_any (n k : Int) (w : World) (h1 : 1 ≤ n) (h2 : n ≤ 4) (h3 : 1 ≤ k) (h4 : k ≤ n) :
    Calls Try.prog 42 #[.int .i64 n, .int .i64 k] w (IntOut w (expo n k)) := by
  obtain ⟨m, rfl⟩ := Int.eq_ofNat_of_zero_le (show 0 ≤ n by omega)
  have c1 := fun w => choices_any m ((m : Int) - k) w (by omega) (by omega) (by omega)
  have c2 := fun w => choices_any m ((m : Int) - k - 1) w (by omega) (by omega) (by omega)
  have c3 := fun w => choices_any m ((m : Int) - k - 2) w (by omega) (by omega) (by omega)
  unfold expo
  rw [show (2 * (m : Int)).toNat = 2 * m by omega]
  have b1 := chI_bound (2 * m) ((m : Int) - k)
  have b2 := chI_bound (2 * m) ((m : Int) - k - 1)
  have b3 := chI_bound (2 * m) ((m : Int) - k - 2)
  generalize chI (2 * m) ((m : Int) - k) = x1 at *
  generalize chI (2 * m) ((m : Int) - k - 1) = x2 at *
  generalize chI (2 * m) ((m : Int) - k - 2) = x3 at *
  have H1 := Lib.hid c1; have H2 := Lib.hid c2; have H3 := Lib.hid c3
  clear c1 c2 c3
  go_enter Try.func42, Try.ntmps42
  go_wp2_with (first
    | (go_at_call 64; (with_reducible refine (H1.out _).mono ?_); rintro e w' ⟨rfl, rfl⟩)
    | (go_at_call 64; (with_reducible refine (H2.out _).mono ?_); rintro e w' ⟨rfl, rfl⟩)
    | (go_at_call 64; (with_reducible refine (H3.out _).mono ?_); rintro e w' ⟨rfl, rfl⟩))
  go_ret
  exact ⟨rfl, rfl⟩
set_option maxHeartbeats 1000000 in
theorem taExponent_any (n k : Int) (w : World) (h1 : 1 ≤ n) (h2 : n ≤ 4) (h3 : 1 ≤ k) (h4 : k ≤ n) :
    Calls Try.prog 40 #[.int .i64 n, .int .i64 k] w (IntOut w (expo n k)) := by
  obtain ⟨m, rfl⟩ := Int.eq_ofNat_of_zero_le (show 0 ≤ n by omega)
  have c1 := fun w => taChoose_any m ((m : Int) - k) w (by omega) (by omega) (by omega)
  have c2 := fun w => taChoose_any m ((m : Int) - k - 1) w (by omega) (by omega) (by omega)
  have c3 := fun w => taChoose_any m ((m : Int) - k - 2) w (by omega) (by omega) (by omega)
  unfold expo
  rw [show (2 * (m : Int)).toNat = 2 * m by omega]
  have b1 := chI_bound (2 * m) ((m : Int) - k)
  have b2 := chI_bound (2 * m) ((m : Int) - k - 1)
  have b3 := chI_bound (2 * m) ((m : Int) - k - 2)
  generalize chI (2 * m) ((m : Int) - k) = x1 at *
  generalize chI (2 * m) ((m : Int) - k - 1) = x2 at *
  generalize chI (2 * m) ((m : Int) - k - 2) = x3 at *
  have H1 := Lib.hid c1; have H2 := Lib.hid c2; have H3 := Lib.hid c3
  clear c1 c2 c3
  go_enter Try.func40, Try.ntmps40
  go_wp2_with (first
    | (go_at_call 63; (with_reducible refine (H1.out _).mono ?_); rintro e w' ⟨rfl, rfl⟩)
    | (go_at_call 63; (with_reducible refine (H2.out _).mono ?_); rintro e w' ⟨rfl, rfl⟩)
    | (go_at_call 63; (with_reducible refine (H3.out _).mono ?_); rintro e w' ⟨rfl, rfl⟩))
  go_ret
  exact ⟨rfl, rfl⟩
theorem okE_no {k x : Int} (h : ok_ExponentOf k x = false) : res_ExponentOf k x = 0 := by simp [res_ExponentOf, h]
set_option maxHeartbeats 1000000 in
theorem impl_ExponentOf (n k : Int) (w : World) : Calls Try.prog 14 #[.int .i64 n, .int .i64 k] w (GivesN w (res_ExponentOf n k) (ok_ExponentOf n k)) := by
  have hs := fun w => isTableSize_any n w
  by_cases hn : 1 ≤ n ∧ n ≤ 4 ∧ 1 ≤ k ∧ k ≤ n
  · have e : ok_ExponentOf n k = true := by unfold ok_ExponentOf; rw [inB_yes hn.1 hn.2.1, inB_yes hn.2.2.1 hn.2.2.2]; rfl
    have er : res_ExponentOf n k = expo n k := by unfold res_ExponentOf; rw [e]; rfl
    rw [e, er]
    have hx := fun w => exponentOf_any n k w hn.1 hn.2.1 hn.2.2.1 hn.2.2.2
    rw [inB_yes (show 0 ≤ n by omega) hn.2.1] at hs
    generalize expo n k = r at hx ⊢
    have HS := Lib.hid hs; have HX := Lib.hid hx
    obtain ⟨n1, n2, n3, n4⟩ := hn
    clear hs hx e er
    go_enter Try.func14, Try.ntmps14
    go_wp2_with (first
      | (go_at_call 41; (with_reducible refine (HS.out _).mono ?_); rintro e w' ⟨rfl, rfl⟩)
      | (go_at_call 42; (with_reducible refine (HX.out _).mono ?_); rintro e w' ⟨rfl, rfl⟩))
    go_ret2
    exact ⟨rfl, Below.refl _ _⟩
  · have e : ok_ExponentOf n k = false := by
      unfold ok_ExponentOf
      rw [← Bool.not_eq_true]
      simp only [Bool.and_eq_true, inB_iff]
      omega
    rw [okE_no e, e]
    cases hb : inB n 0 4 with
    | false =>
      rw [hb] at hs
      have HS := Lib.hid hs
      clear hs e hb hn
      go_enter Try.func14, Try.ntmps14
      go_wp2_with (go_at_call 41; (with_reducible refine (HS.out _).mono ?_); rintro e w' ⟨rfl, rfl⟩)
      go_ret2
      exact ⟨rfl, Below.refl _ _⟩
    | true =>
      have hb2 := inB_iff.1 hb
      rw [hb] at hs
      have HS := Lib.hid hs
      clear hs e hb
      by_cases hk : k < 1
      · go_enter Try.func14, Try.ntmps14
        go_wp2_with (go_at_call 41; (with_reducible refine (HS.out _).mono ?_); rintro e w' ⟨rfl, rfl⟩)
        go_ret2
        exact ⟨rfl, Below.refl _ _⟩
      · have hkn : n < k := by omega
        go_enter Try.func14, Try.ntmps14
        go_wp2_with (go_at_call 41; (with_reducible refine (HS.out _).mono ?_); rintro e w' ⟨rfl, rfl⟩)
        go_ret2
        exact ⟨rfl, Below.refl _ _⟩
theorem okE_no' {k x : Int} (h : ok_ExponentOf k x = false) : res_ExponentOf k x = 0 := by simp [res_ExponentOf, h]
set_option maxHeartbeats 1000000 in
theorem spec_ExponentOf (n k : Int) (w : World) : Calls Try.prog 13 #[.int .i64 n, .int .i64 k] w (GivesN w (res_ExponentOf n k) (ok_ExponentOf n k)) := by
  have hi1 := fun w => l1In_any n 1 4 w
  have hi2 := fun w => l1In_any k 1 n w
  cases hn : inB n 1 4 with
  | true =>
    have hn2 := inB_iff.1 hn
    cases hk : inB k 1 n with
    | true =>
      have hk2 := inB_iff.1 hk
      have e : ok_ExponentOf n k = true := by unfold ok_ExponentOf; rw [hn, hk]; rfl
      have er : res_ExponentOf n k = expo n k := by unfold res_ExponentOf; rw [e]; rfl
      rw [e, er]
      have hx := fun w => taExponent_any n k w hn2.1 hn2.2 hk2.1 hk2.2
      rw [hn] at hi1
      rw [hk] at hi2
      generalize expo n k = r at hx ⊢
      have H1 := Lib.hid hi1; have H2 := Lib.hid hi2; have HX := Lib.hid hx
      clear hi1 hi2 hx e er hn hk hn2 hk2
      go_enter Try.func13, Try.ntmps13
      go_wp2_with (first
        | (go_at_call 36; (with_reducible refine (H1.out _).mono ?_); rintro e w' ⟨rfl, rfl⟩)
        | (go_at_call 36; (with_reducible refine (H2.out _).mono ?_); rintro e w' ⟨rfl, rfl⟩)
        | (go_at_call 40; (with_reducible refine (HX.out _).mono ?_); rintro e w' ⟨rfl, rfl⟩))
      go_ret2
      exact ⟨rfl, Below.refl _ _⟩
    | false =>
      have e : ok_ExponentOf n k = false := by unfold ok_ExponentOf; rw [hn, hk]; rfl
      rw [okE_no' e, e]
      rw [hn] at hi1
      rw [hk] at hi2
      have H1 := Lib.hid hi1; have H2 := Lib.hid hi2
      clear hi1 hi2 e hn hk hn2
      go_enter Try.func13, Try.ntmps13
      go_wp2_with (first
        | (go_at_call 36; (with_reducible refine (H1.out _).mono ?_); rintro e w' ⟨rfl, rfl⟩)
        | (go_at_call 36; (with_reducible refine (H2.out _).mono ?_); rintro e w' ⟨rfl, rfl⟩))
      go_ret2
      exact ⟨rfl, Below.refl _ _⟩
  | false =>
    have e : ok_ExponentOf n k = false := by unfold ok_ExponentOf; rw [hn]; rfl
    rw [okE_no' e, e]
    rw [hn] at hi1
    have H1 := Lib.hid hi1
    clear hi1 hi2 e hn
    go_enter Try.func13, Try.ntmps13
    go_wp2_with (first
      | (go_at_call 36; (with_reducible refine (H1.out _).mono ?_); rintro e w' ⟨rfl, rfl⟩))
    go_ret2
    exact ⟨rfl, Below.refl _ _⟩

end Go.Proofs.Ytnkkgbecdckigab
