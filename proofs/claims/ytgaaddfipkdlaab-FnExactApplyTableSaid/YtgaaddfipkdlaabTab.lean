/- Values, exponents and products, in the program and in the model. -/
import Derived.Test.YtgaaddfipkdlaabSlice
import Derived.Test.YtgaaddfipkdlaabTabMath
import Derived.Test.YtgaaddfipkdlaabNum
import Derived.IntWalk
namespace Go.Proofs.Ytgaaddfipkdlaab
open Go.RowKit
set_option linter.unusedSimpArgs false
set_option linter.unusedVariables false

def IntOut (w : World) (x : Int) (e : Ending) (w' : World) : Prop := e = .returned (.int .i64 x) ∧ w = w'
def BoolOut (w : World) (b : Bool) (e : Ending) (w' : World) : Prop := e = .returned (.bool b) ∧ w = w'
theorem ret_eqB {x y : Bool} {w : World} (h : x = y) : BoolOut w y (.returned (.bool x)) w := ⟨by rw [h], rfl⟩
theorem ret_eqI {x y : Int} {w : World} (h : x = y) : IntOut w y (.returned (.int .i64 x)) w := ⟨by rw [h], rfl⟩

set_option maxHeartbeats 400000 in
theorem isWithin_any (x l : Int) (w : World) (h0 : 0 ≤ l) (h1 : l ≤ 1000000000000000000) :
    Calls Try.prog 52 #[.int .i64 x, .int .i64 l] w (BoolOut w (inB x (-l) l)) := by
  by_cases ha : -l ≤ x
  · by_cases hb : x ≤ l
    · go_enter Try.func52, Try.ntmps52
      go_wp2
      go_ret
      exact ret_eqB (by simp [inB]; omega)
    · go_enter Try.func52, Try.ntmps52
      go_wp2
      go_ret
      exact ret_eqB (by simp [inB]; omega)
  · go_enter Try.func52, Try.ntmps52
    go_wp2
    go_ret
    exact ret_eqB (by simp [inB]; omega)
set_option maxHeartbeats 400000 in
theorem isTableSize_any (n : Int) (w : World) :
    Calls Try.prog 44 #[.int .i64 n] w (BoolOut w (inB n 0 4)) := by
  go_enter Try.func44, Try.ntmps44
  go_wp2
  all_goals
    go_ret
    exact ret_eqB (by simp [inB]; omega)
theorem asks_four (x : Int) : asksB 4 x = inB x (-2) 2 := by
  unfold asksB
  rw [Bool.eq_iff_iff]
  simp only [Bool.and_eq_true, Bool.or_eq_true, inB_iff, decide_eq_true_eq]
  omega
theorem asks_other {n x : Int} (h : n ≠ 4) : asksB n x = (inB n 0 4 && inB x (-3) 3) := by
  unfold asksB
  rw [Bool.eq_iff_iff]
  simp only [Bool.and_eq_true, Bool.or_eq_true, inB_iff, decide_eq_true_eq]
  omega
set_option maxHeartbeats 400000 in
theorem isTableOf_any (n x : Int) (w : World) :
    Calls Try.prog 41 #[.int .i64 n, .int .i64 x] w (BoolOut w (asksB n x)) := by
  by_cases h4 : n = 4
  · subst h4
    rw [asks_four]
    have H := Lib.hid (fun w => isWithin_any x 2 w (by omega) (by omega))
    go_enter Try.func41, Try.ntmps41
    go_wp2_with (go_at_call 52; (with_reducible refine (H.out _).mono ?_); rintro e w' ⟨rfl, rfl⟩)
    go_ret
    exact ⟨rfl, rfl⟩
  · rw [asks_other h4]
    have H := Lib.hid (fun w => isWithin_any x 3 w (by omega) (by omega))
    have HT := Lib.hid (fun w => isTableSize_any n w)
    generalize inB x (-3) 3 = b at H ⊢
    generalize inB n 0 4 = a at HT ⊢
    cases a
    · go_enter Try.func41, Try.ntmps41
      go_wp2_with (first
        | (go_at_call 44; (with_reducible refine (HT.out _).mono ?_); rintro e w' ⟨rfl, rfl⟩)
        | (go_at_call 52; (with_reducible refine (H.out _).mono ?_); rintro e w' ⟨rfl, rfl⟩))
      go_ret
      exact ⟨rfl, rfl⟩
    · go_enter Try.func41, Try.ntmps41
      go_wp2_with (first
        | (go_at_call 44; (with_reducible refine (HT.out _).mono ?_); rintro e w' ⟨rfl, rfl⟩)
        | (go_at_call 52; (with_reducible refine (H.out _).mono ?_); rintro e w' ⟨rfl, rfl⟩))
      go_ret
      exact ⟨rfl, rfl⟩
set_option maxHeartbeats 400000 in
theorem power_any (x : Int) (e : Nat) (w : World) (he : e ≤ 1000) (hb : ∀ i, i ≤ e → -1000000000000000 ≤ x ^ i ∧ x ^ i ≤ 1000000000000000) :
    Calls Try.prog 69 #[.int .i64 x, .int .i64 (e : Int)] w (IntOut w (x ^ e)) := by
  have HB := Lib.hid hb; clear hb
  go_enter Try.func69, Try.ntmps69
  go_wp2
  go_loop [5, 7] (fun p i => ∃ k : Nat, k ≤ e ∧ i = .int .i64 k ∧ p = .int .i64 (x ^ k)) (fun _ i => e - (intOf i).toNat)
  case atStart => exact ⟨0, by omega, rfl, by rw [Int.pow_zero]⟩
  case round =>
    obtain ⟨k, hk, rfl, rfl⟩ := hrel
    by_cases hlt : k < e
    · have h1 := HB.out (k + 1) (by omega)
      have hs : x ^ (k + 1) = x ^ k * x := Int.pow_succ x k
      have HP : Hid (x ^ k * x = x ^ (k + 1)) := hs.symm
      rw [hs] at h1
      obtain ⟨ha1, ha2⟩ := h1
      clear hs
      generalize hb : x ^ (k + 1) = b at HP
      generalize x ^ k = a at *
      go_wp2
      go_round
      case rel => exact ⟨k + 1, by omega, by go_num, by rw [HP.out, hb]⟩
      case measure => simp [intOf]; omega
    · obtain rfl : k = e := by omega
      go_wp2
      go_ret
      exact ⟨rfl, rfl⟩
set_option maxHeartbeats 400000 in
theorem taPower_any (x : Int) (e : Nat) (w : World) (he : e ≤ 1000) (hb : ∀ i, i ≤ e → -1000000000000000 ≤ x ^ i ∧ x ^ i ≤ 1000000000000000) :
    Calls Try.prog 67 #[.int .i64 x, .int .i64 (e : Int)] w (IntOut w (x ^ e)) := by
  have HB := Lib.hid hb; clear hb
  go_enter Try.func67, Try.ntmps67
  go_wp2
  go_loop [1, 5] (fun i p => ∃ k q : Nat, k + q = e ∧ i = .int .i64 q ∧ p = .int .i64 (x ^ k)) (fun i _ => (intOf i).toNat)
  case atStart => exact ⟨0, e, by omega, rfl, by rw [Int.pow_zero]⟩
  case round =>
    obtain ⟨k, q, hk, rfl, rfl⟩ := hrel
    by_cases hlt : 0 < q
    · have h1 := HB.out (k + 1) (by omega)
      have hs : x ^ (k + 1) = x ^ k * x := Int.pow_succ x k
      have HP : Hid (x ^ k * x = x ^ (k + 1)) := hs.symm
      rw [hs] at h1
      obtain ⟨ha1, ha2⟩ := h1
      clear hs
      have HQ : Hid ((q : Int) - 1 = ((q - 1 : Nat) : Int)) := by show (q : Int) - 1 = ((q - 1 : Nat) : Int); omega
      generalize hb : x ^ (k + 1) = b at HP
      generalize x ^ k = a at *
      go_wp2
      go_round
      case rel => exact ⟨k + 1, q - 1, by omega, by rw [HQ.out], by rw [HP.out, hb]⟩
      case measure => simp [intOf]; omega
    · obtain rfl : q = 0 := by omega
      obtain rfl : k = e := by omega
      go_wp2
      go_ret
      exact ⟨rfl, rfl⟩

end Go.Proofs.Ytgaaddfipkdlaab
