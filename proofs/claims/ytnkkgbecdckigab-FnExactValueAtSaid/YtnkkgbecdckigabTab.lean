/- Values, exponents and products, in the program and in the model. -/
import Derived.Test.YtnkkgbecdckigabSlice
import Derived.Test.YtnkkgbecdckigabTabMath
import Derived.Test.YtnkkgbecdckigabNum
import Derived.IntWalk
namespace Go.Proofs.Ytnkkgbecdckigab
open Go.RowKit
set_option linter.unusedSimpArgs false
set_option linter.unusedVariables false

def IntOut (w : World) (x : Int) (e : Ending) (w' : World) : Prop := e = .returned (.int .i64 x) ∧ w = w'
def BoolOut (w : World) (b : Bool) (e : Ending) (w' : World) : Prop := e = .returned (.bool b) ∧ w = w'
theorem ret_eqB {x y : Bool} {w : World} (h : x = y) : BoolOut w y (.returned (.bool x)) w := ⟨by rw [h], rfl⟩
theorem ret_eqI {x y : Int} {w : World} (h : x = y) : IntOut w y (.returned (.int .i64 x)) w := ⟨by rw [h], rfl⟩

set_option maxHeartbeats 400000 in
theorem isWithin_any (x l : Int) (w : World) (h0 : 0 ≤ l) (h1 : l ≤ 1000000000000000000) :
    Calls Try.prog 38 #[.int .i64 x, .int .i64 l] w (BoolOut w (inB x (-l) l)) := by
  by_cases ha : -l ≤ x
  · by_cases hb : x ≤ l
    · go_enter Try.func38, Try.ntmps38
      go_wp2
      go_ret
      exact ret_eqB (by simp [inB]; omega)
    · go_enter Try.func38, Try.ntmps38
      go_wp2
      go_ret
      exact ret_eqB (by simp [inB]; omega)
  · go_enter Try.func38, Try.ntmps38
    go_wp2
    go_ret
    exact ret_eqB (by simp [inB]; omega)
set_option maxHeartbeats 400000 in
theorem isTableSize_any (n : Int) (w : World) :
    Calls Try.prog 41 #[.int .i64 n] w (BoolOut w (inB n 0 4)) := by
  go_enter Try.func41, Try.ntmps41
  go_wp2
  all_goals
    go_ret
    exact ret_eqB (by simp [inB]; omega)
theorem asks_four (x : Int) : asksB 4 x = inB x (-2) 2 := by
  unfold asksB
  rw [Bool.eq_iff_iff]
  simp only [Bool.and_eq_true, Bool.or_eq_true, inB_iff, decide_eq_true_eq]
  omega
theorem asks_other {n x : Int} (h : n ≠ 4) : asksB n x = (inB n 0 4 && inB x (-3) 3) := by
  unfold asksB
  rw [Bool.eq_iff_iff]
  simp only [Bool.and_eq_true, Bool.or_eq_true, inB_iff, decide_eq_true_eq]
  omega
set_option maxHeartbeats 400000 in
theorem isTableOf_any (n x : Int) (w : World) :
    Calls Try.prog 45 #[.int .i64 n, .int .i64 x] w (BoolOut w (asksB n x)) := by
  by_cases h4 : n = 4
  · subst h4
    rw [asks_four]
    have H := Lib.hid (fun w => isWithin_any x 2 w (by omega) (by omega))
    go_enter Try.func45, Try.ntmps45
    go_wp2_with (go_at_call 38; (with_reducible refine (H.out _).mono ?_); rintro e w' ⟨rfl, rfl⟩)
    go_ret
    exact ⟨rfl, rfl⟩
  · rw [asks_other h4]
    have H := Lib.hid (fun w => isWithin_any x 3 w (by omega) (by omega))
    have HT := Lib.hid (fun w => isTableSize_any n w)
    generalize inB x (-3) 3 = b at H ⊢
    generalize inB n 0 4 = a at HT ⊢
    cases a
    · go_enter Try.func45, Try.ntmps45
      go_wp2_with (first
        | (go_at_call 41; (with_reducible refine (HT.out _).mono ?_); rintro e w' ⟨rfl, rfl⟩)
        | (go_at_call 38; (with_reducible refine (H.out _).mono ?_); rintro e w' ⟨rfl, rfl⟩))
      go_ret
      exact ⟨rfl, rfl⟩
    · go_enter Try.func45, Try.ntmps45
      go_wp2_with (first
        | (go_at_call 41; (with_reducible refine (HT.out _).mono ?_); rintro e w' ⟨rfl, rfl⟩)
        | (go_at_call 38; (with_reducible refine (H.out _).mono ?_); rintro e w' ⟨rfl, rfl⟩))
      go_ret
      exact ⟨rfl, rfl⟩
set_option maxHeartbeats 400000 in
theorem power_any (x : Int) (e : Nat) (w : World) (he : e ≤ 1000) (hb : ∀ i, i ≤ e → -1000000000000000 ≤ x ^ i ∧ x ^ i ≤ 1000000000000000) :
    Calls Try.prog 46 #[.int .i64 x, .int .i64 (e : Int)] w (IntOut w (x ^ e)) := by
  have HB := Lib.hid hb; clear hb
  go_enter Try.func46, Try.ntmps46
  go_wp2
  go_loop [5, 7] (fun p i => ∃ k : Nat, k ≤ e ∧ i = .int .i64 k ∧ p = .int .i64 (x ^ k)) (fun _ i => e - (intOf i).toNat)
  case atStart => exact ⟨0, by omega, rfl, by rw [Int.pow_zero]⟩
  case round =>
    obtain ⟨k, hk, rfl, rfl⟩ := hrel
    by_cases hlt : k < e
    · have h1 := HB.out (k + 1) (by omega)
      have hs : x ^ (k + 1) = x ^ k * x := Int.pow_succ x k
      have HP : Hid (x ^ k * x = x ^ (k + 1)) := hs.symm
      rw [hs] at h1
      obtain ⟨ha1, ha2⟩ := h1
      clear hs
      generalize hb : x ^ (k + 1) = b at HP
      generalize x ^ k = a at *
      go_wp2
      go_round
      case rel => exact ⟨k + 1, by omega, by go_num, by rw [HP.out, hb]⟩
      case measure => simp [intOf]; omega
    · obtain rfl : k = e := by omega
      go_wp2
      go_ret
      exact ⟨rfl, rfl⟩
set_option maxHeartbeats 400000 in
theorem taPower_any (x : Int) (e : Nat) (w : World) (he : e ≤ 1000) (hb : ∀ i, i ≤ e → -1000000000000000 ≤ x ^ i ∧ x ^ i ≤ 1000000000000000) :
    Calls Try.prog 44 #[.int .i64 x, .int .i64 (e : Int)] w (IntOut w (x ^ e)) := by
  have HB := Lib.hid hb; clear hb
  go_enter Try.func44, Try.ntmps44
  go_wp2
  go_loop [1, 5] (fun i p => ∃ k q : Nat, k + q = e ∧ i = .int .i64 q ∧ p = .int .i64 (x ^ k)) (fun i _ => (intOf i).toNat)
  case atStart => exact ⟨0, e, by omega, rfl, by rw [Int.pow_zero]⟩
  case round =>
    obtain ⟨k, q, hk, rfl, rfl⟩ := hrel
    by_cases hlt : 0 < q
    · have h1 := HB.out (k + 1) (by omega)
      have hs : x ^ (k + 1) = x ^ k * x := Int.pow_succ x k
      have HP : Hid (x ^ k * x = x ^ (k + 1)) := hs.symm
      rw [hs] at h1
      obtain ⟨ha1, ha2⟩ := h1
      clear hs
      have HQ : Hid ((q : Int) - 1 = ((q - 1 : Nat) : Int)) := by show (q : Int) - 1 = ((q - 1 : Nat) : Int); omega
      generalize hb : x ^ (k + 1) = b at HP
      generalize x ^ k = a at *
      go_wp2
      go_round
      case rel => exact ⟨k + 1, q - 1, by omega, by rw [HQ.out], by rw [HP.out, hb]⟩
      case measure => simp [intOf]; omega
    · obtain rfl : q = 0 := by omega
      obtain rfl : k = e := by omega
      go_wp2
      go_ret
      exact ⟨rfl, rfl⟩
set_option maxHeartbeats 400000 in
theorem valueAt_any (n : Nat) (x : Int) (w : World) (hn : n ≤ 10) (h1 : -3 ≤ x) (h2 : x ≤ 3) :
    Calls Try.prog 39 #[.int .i64 (n : Int), .int .i64 x] w (IntOut w (uV x n)) := by
  have HB := Lib.hid (fun (i : Nat) (hi : i ≤ 11) => uV_bound h1 h2 hi)
  go_enter Try.func39, Try.ntmps39
  go_wp2
  go_loop [5, 6, 9] (fun a b i => ∃ k : Nat, k ≤ n ∧ i = .int .i64 k ∧ a = .int .i64 (uV x k) ∧ b = .int .i64 (uV x (k + 1))) (fun _ _ i => n - (intOf i).toNat)
  case atStart => exact ⟨0, by omega, rfl, rfl, rfl⟩
  case round =>
    obtain ⟨k, hk, rfl, rfl, rfl⟩ := hrel
    by_cases hlt : k < n
    · obtain ⟨⟨b1, b2⟩, _, _⟩ := HB.out k (by omega)
      obtain ⟨⟨b3, b4⟩, ⟨b5, b6⟩, _⟩ := HB.out (k + 1) (by omega)
      have HN := Lib.hid (uV_next x k)
      generalize uV x k = a at *
      generalize hb : uV x (k + 1) = b at *
      go_wp2
      go_round
      case rel => exact ⟨k + 1, by omega, by go_num, by rw [hb], by rw [HN.out]⟩
      case measure => simp [intOf]; omega
    · obtain rfl : k = n := by omega
      go_wp2
      go_ret
      exact ⟨rfl, rfl⟩
set_option maxHeartbeats 400000 in
theorem taValue_any (n : Nat) (x : Int) (w : World) (hn : n ≤ 10) (h1 : -3 ≤ x) (h2 : x ≤ 3) :
    Calls Try.prog 37 #[.int .i64 (n : Int), .int .i64 x] w (IntOut w (uV x n)) := by
  have HB := Lib.hid (fun (i : Nat) (hi : i ≤ 11) => uV_bound h1 h2 hi)
  go_enter Try.func37, Try.ntmps37
  go_wp2
  go_loop [0, 5, 6] (fun i a b => ∃ k q : Nat, k + q = n ∧ i = .int .i64 q ∧ a = .int .i64 (uP x k) ∧ b = .int .i64 (uV x k)) (fun i _ _ => (intOf i).toNat)
  case atStart => exact ⟨0, n, by omega, rfl, rfl, rfl⟩
  case round =>
    obtain ⟨k, q, hk, rfl, rfl, rfl⟩ := hrel
    by_cases hlt : 0 < q
    · obtain ⟨⟨b1, b2⟩, ⟨b5, b6⟩, ⟨b3, b4⟩⟩ := HB.out k (by omega)
      have HN := Lib.hid (uP_next x k)
      have HQ : Hid ((q : Int) - 1 = ((q - 1 : Nat) : Int)) := by show (q : Int) - 1 = ((q - 1 : Nat) : Int); omega
      have HU : Hid (uP x (k + 1) = uV x k) := rfl
      generalize uP x k = a at *
      generalize uV x k = b at *
      go_wp2
      go_round
      case rel => exact ⟨k + 1, q - 1, by omega, by rw [HQ.out], by rw [HU.out], by rw [HN.out]⟩
      case measure => simp [intOf]; omega
    · obtain rfl : q = 0 := by omega
      obtain rfl : k = n := by omega
      go_wp2
      go_ret
      exact ⟨rfl, rfl⟩
theorem okV_no {k x : Int} (h : ok_ValueAt k x = false) : res_ValueAt k x = 0 := by simp [res_ValueAt, h]
set_option maxHeartbeats 400000 in
theorem impl_ValueAt (k x : Int) (w : World) : Calls Try.prog 12 #[.int .i64 k, .int .i64 x] w (GivesN w (res_ValueAt k x) (ok_ValueAt k x)) := by
  have hw := fun w => isWithin_any x 3 w (by omega) (by omega)
  by_cases hk : 0 ≤ k ∧ k ≤ 10
  · have e1 := inB_yes hk.1 hk.2
    cases hx : inB x (-3) 3 with
    | true =>
      have hx2 := inB_iff.1 hx
      have e : ok_ValueAt k x = true := by unfold ok_ValueAt; rw [e1, hx]; rfl
      have er : res_ValueAt k x = uV x k.toNat := by unfold res_ValueAt; rw [e]; rfl
      rw [e, er]
      rw [hx] at hw
      obtain ⟨q, rfl⟩ := Int.eq_ofNat_of_zero_le hk.1
      have hv := fun w => valueAt_any q x w (by omega) hx2.1 hx2.2
      rw [show ((q : Nat) : Int).toNat = q by omega]
      have HW := Lib.hid hw; have HV := Lib.hid hv
      generalize uV x q = r at HV ⊢
      clear hw hv e er e1 hx
      go_enter Try.func12, Try.ntmps12
      go_wp2_with (first
        | (go_at_call 38; (with_reducible refine (HW.out _).mono ?_); rintro e w' ⟨rfl, rfl⟩)
        | (go_at_call 39; (with_reducible refine (HV.out _).mono ?_); rintro e w' ⟨rfl, rfl⟩))
      go_ret2
      exact ⟨rfl, Below.refl _ _⟩
    | false =>
      have e : ok_ValueAt k x = false := by unfold ok_ValueAt; rw [e1, hx]; rfl
      rw [okV_no e, e]
      rw [hx] at hw
      have HW := Lib.hid hw
      clear hw e e1 hx
      go_enter Try.func12, Try.ntmps12
      go_wp2_with (first
        | (go_at_call 38; (with_reducible refine (HW.out _).mono ?_); rintro e w' ⟨rfl, rfl⟩))
      go_ret2
      exact ⟨rfl, Below.refl _ _⟩
  · have e : ok_ValueAt k x = false := by unfold ok_ValueAt; rw [inB_no hk]; rfl
    rw [okV_no e, e]
    clear hw e
    go_enter Try.func12, Try.ntmps12
    go_wp2
    all_goals
      go_ret2
      exact ⟨rfl, Below.refl _ _⟩
theorem okV_no' {k x : Int} (h : ok_ValueAt k x = false) : res_ValueAt k x = 0 := by simp [res_ValueAt, h]
set_option maxHeartbeats 400000 in
theorem spec_ValueAt (k x : Int) (w : World) : Calls Try.prog 11 #[.int .i64 k, .int .i64 x] w (GivesN w (res_ValueAt k x) (ok_ValueAt k x)) := by
  have hi1 := fun w => l1In_any k 0 10 w
  have hi2 := fun w => l1In_any x (-3) 3 w
  cases hk : inB k 0 10 with
  | true =>
    have hk2 := inB_iff.1 hk
    cases hx : inB x (-3) 3 with
    | true =>
      have hx2 := inB_iff.1 hx
      have e : ok_ValueAt k x = true := by unfold ok_ValueAt; rw [hk, hx]; rfl
      have er : res_ValueAt k x = uV x k.toNat := by unfold res_ValueAt; rw [e]; rfl
      rw [e, er]
      rw [hk] at hi1
      rw [hx] at hi2
      obtain ⟨q, rfl⟩ := Int.eq_ofNat_of_zero_le hk2.1
      have hv := fun w => taValue_any q x w (by omega) hx2.1 hx2.2
      rw [show ((q : Nat) : Int).toNat = q by omega]
      have H1 := Lib.hid hi1; have H2 := Lib.hid hi2; have HV := Lib.hid hv
      generalize uV x q = r at HV ⊢
      clear hi1 hi2 hv e er hk hx
      go_enter Try.func11, Try.ntmps11
      go_wp2_with (first
        | (go_at_call 36; (with_reducible refine (H1.out _).mono ?_); rintro e w' ⟨rfl, rfl⟩)
        | (go_at_call 36; (with_reducible refine (H2.out _).mono ?_); rintro e w' ⟨rfl, rfl⟩)
        | (go_at_call 37; (with_reducible refine (HV.out _).mono ?_); rintro e w' ⟨rfl, rfl⟩))
      go_ret2
      exact ⟨rfl, Below.refl _ _⟩
    | false =>
      have e : ok_ValueAt k x = false := by unfold ok_ValueAt; rw [hk, hx]; rfl
      rw [okV_no' e, e]
      rw [hk] at hi1
      rw [hx] at hi2
      have H1 := Lib.hid hi1; have H2 := Lib.hid hi2
      clear hi1 hi2 e hk hx
      go_enter Try.func11, Try.ntmps11
      go_wp2_with (first
        | (go_at_call 36; (with_reducible refine (H1.out _).mono ?_); rintro e w' ⟨rfl, rfl⟩)
        | (go_at_call 36; (with_reducible refine (H2.out _).mono ?_); rintro e w' ⟨rfl, rfl⟩))
      go_ret2
      exact ⟨rfl, Below.refl _ _⟩
  | false =>
    have e : ok_ValueAt k x = false := by unfold ok_ValueAt; rw [hk]; rfl
    rw [okV_no' e, e]
    rw [hk] at hi1
    have H1 := Lib.hid hi1
    clear hi1 hi2 e hk
    go_enter Try.func11, Try.ntmps11
    go_wp2_with (first
      | (go_at_call 36; (with_reducible refine (H1.out _).mono ?_); rintro e w' ⟨rfl, rfl⟩))
    go_ret2
    exact ⟨rfl, Below.refl _ _⟩

end Go.Proofs.Ytnkkgbecdckigab
