/- Greatest common divisors; IndexOfTwo, IndexOfThree. -/
import Derived.Test.YtllhdmpnjcemkaaWeedRead
namespace Go.Proofs.Ytllhdmpnjcemkaa
open Go.RowKit
set_option linter.unusedSimpArgs false
set_option linter.unusedVariables false

theorem gcd_bound (a b : Int) (ha : 0 ≤ a) (hb : 0 ≤ b) : 0 ≤ gcdI a b ∧ gcdI a b ≤ a + b := by
  unfold gcdI
  obtain ⟨x, rfl⟩ := Int.eq_ofNat_of_zero_le ha
  obtain ⟨y, rfl⟩ := Int.eq_ofNat_of_zero_le hb
  have : Nat.gcd x y ≤ x + y := by
    rcases Nat.eq_zero_or_pos x with h | h
    · subst h; simp
    · have := Nat.gcd_le_left y h; omega
  simp only [Int.toNat_natCast]
  omega
theorem mod_bound (a b : Int) (hb : 0 < b) : 0 ≤ a % b ∧ a % b < b := ⟨Int.emod_nonneg _ (by omega), Int.emod_lt_of_pos _ hb⟩

set_option maxHeartbeats 1000000 in
theorem commonDivisor_any (a b : Int) (w : World) (ha : 0 ≤ a) (hb : 0 ≤ b) (ha' : a ≤ 1000) (hb' : b ≤ 1000) :
    Calls Try.prog 54 #[.int .i64 a, .int .i64 b] w fun e w' => e = .returned (.int .i64 (gcdI a b)) ∧ Below w.heap.size w w' := by
  go_enter Try.func54, Try.ntmps54
  go_wp2
  go_loopw [0, 1] (fun u v wr => ∃ x y : Int, u = .int .i64 x ∧ v = .int .i64 y ∧ 0 ≤ x ∧ 0 ≤ y ∧ x ≤ 1000 ∧ y ≤ 1000 ∧ Hid (gcdI x y = gcdI a b) ∧ ∃ q, wr = w.drewN q) (fun _ v _ => (intOf v).toNat)
  case atStart => exact ⟨a, b, rfl, rfl, ha, hb, ha', hb', rfl, 0, rfl⟩
  case round =>
    obtain ⟨x, y, rfl, rfl, hx, hy, hx', hy', HG, q, rfl⟩ := hrel
    by_cases hlt : 0 < y
    · have hm := mod_bound x y hlt
      have hs := gcdI_step x y hx hlt
      have HS := Lib.hid (hs.symm.trans HG.out)
      have hne : ¬ y = 0 := by omega
      have hrem : x.tmod y = x % y := Int.tmod_eq_emod_of_nonneg hx
      clear hs HG
      generalize hz : x % y = z at *
      go_wp2
      go_quiet (fail)
      go_wp2
      go_roundw
      case rel => exact ⟨y, z, rfl, by first | rfl | rw [hrem] | rw [hz], by omega, by omega, by omega, by omega, HS.out, _, World.drewN_drewN ..⟩
      case measure => simp [intOf]; omega
    · obtain rfl : y = 0 := by omega
      have hg := gcdI_zero x hx
      have HG2 := Lib.hid (hg.symm.trans HG.out)
      go_wp2
      go_ret
      exact ⟨by rw [← HG2.out]; rfl, below_drewN (Below.refl _ _) q⟩

set_option maxHeartbeats 1000000 in
theorem swGcd_any : ∀ (m : Nat) (a b : Int) (w : World), 0 ≤ a → 0 ≤ b → a ≤ 1000 → b ≤ 1000 → b.toNat ≤ m →
    Calls Try.prog 53 #[.int .i64 a, .int .i64 b] w (SumOut w (gcdI a b)) := by
  intro m
  induction m with
  | zero =>
    intro a b w ha hb ha' hb' hm
    obtain rfl : b = 0 := by omega
    rw [gcdI_zero a ha]
    go_enter Try.func53, Try.ntmps53
    go_wp2
    go_ret
    exact ⟨rfl, rfl⟩
  | succ m ih =>
    intro a b w ha hb ha' hb' hm
    by_cases h0 : b = 0
    · subst h0
      rw [gcdI_zero a ha]
      go_enter Try.func53, Try.ntmps53
      go_wp2
      go_ret
      exact ⟨rfl, rfl⟩
    · have hm2 := mod_bound a b (by omega)
      rw [gcdI_step a b ha (by omega)]
      have IH := Lib.hid (ih b (a % b) w hb hm2.1 hb' (by omega) (by omega))
      have hrem : a.tmod b = a % b := Int.tmod_eq_emod_of_nonneg ha
      clear ih
      generalize hz : a % b = z at *
      go_enter Try.func53, Try.ntmps53
      go_wp2_with fail
      refine IH.out.mono ?_
      rintro e w' ⟨rfl, rfl⟩
      go_wp2
      go_ret
      exact ⟨rfl, rfl⟩

/-! IndexOfTwo -/
def ok_IndexOfTwo (a b : Int) : Bool := partsB [a, b]
def res_IndexOfTwo (a b : Int) : Int := if partsB [a, b] then gcdI a b - 1 else 0
theorem two_facts {a b : Int} (h : partsB [a, b] = true) : 1 ≤ a ∧ 1 ≤ b ∧ a + b ≤ 20 := by
  have := (parts_iff _).1 h
  simp at this; omega
def ok_IndexOfThree (a b c : Int) : Bool := partsB [a, b, c]
def res_IndexOfThree (a b c : Int) : Int := if partsB [a, b, c] then gcdI (a + b) (b + c) - 1 else 0
theorem three_facts {a b c : Int} (h : partsB [a, b, c] = true) : 1 ≤ a ∧ 1 ≤ b ∧ 1 ≤ c ∧ a + (b + c) ≤ 20 := by
  have := (parts_iff _).1 h
  simp at this; omega
theorem Own.lit3 (B : Nat) (w : World) (x y z : Int) (hB : B ≤ w.heap.size) : Own B (w.alloc (.cells #[.int .i64 x, .int .i64 y, .int .i64 z] 3)) (.slice (some ⟨w.heap.size, 0, none⟩) 3 3) [x, y, z] :=
  World.ownsRow_lit w #[.int .i64 x, .int .i64 y, .int .i64 z] 3 hB (by unfold maxLen; omega) rfl
set_option maxHeartbeats 1000000 in
theorem impl_IndexOfTwo (a b : Int) (w : World) : Calls Try.prog 32 #[.int .i64 a, .int .i64 b] w (GivesN w (res_IndexOfTwo a b) (ok_IndexOfTwo a b)) := by
  unfold res_IndexOfTwo ok_IndexOfTwo
  have hrd := Own.rd (Own.lit2 w.heap.size w a b (Nat.le_refl _))
  cases e : partsB [a, b] with
  | true =>
    have HR := Lib.hid (readParts_yes _ [a, b] _ hrd e)
    have hf := two_facts e
    have hg := gcd_bound a b (by omega) (by omega)
    have HG := Lib.hid (commonDivisor_any a b (w.alloc (.cells #[.int .i64 a, .int .i64 b] 3)) (by omega) (by omega) (by omega) (by omega))
    rw [if_pos rfl]
    clear hrd e
    generalize gcdI a b = g at *
    go_enter Try.func32, Try.ntmps32
    go_wp2_with (first
      | (go_at_call 44; ((with_reducible refine HR.out.mono ?_); rintro e w1 ⟨rfl, rfl⟩))
      | (go_at_call 54; ((with_reducible refine HG.out.mono ?_); rintro e w2 ⟨rfl, hb⟩; have HB := Lib.hid (Below.step (Below.alloc1 w _) hb); clear hb)))
    go_ret2
    exact ⟨rfl, HB.out⟩
  | false =>
    have HR := Lib.hid (readParts_no _ [a, b] _ hrd e)
    rw [if_neg (by simp)]
    clear hrd e
    go_enter Try.func32, Try.ntmps32
    go_wp2_with (go_at_call 44; ((with_reducible refine HR.out.mono ?_); rintro e w1 ⟨rfl, rfl⟩))
    go_ret2
    exact ⟨rfl, Below.alloc1 w _⟩
set_option maxHeartbeats 1000000 in
theorem spec_IndexOfTwo (a b : Int) (w : World) : Calls Try.prog 31 #[.int .i64 a, .int .i64 b] w (GivesN w (res_IndexOfTwo a b) (ok_IndexOfTwo a b)) := by
  unfold res_IndexOfTwo ok_IndexOfTwo
  have hrd := Own.rd (Own.lit2 w.heap.size w a b (Nat.le_refl _))
  cases e : partsB [a, b] with
  | true =>
    have hr := swParts_any _ [a, b] _ hrd (by simp)
    rw [e] at hr
    have HR := Lib.hid hr
    have hf := two_facts e
    have hg := gcd_bound a b (by omega) (by omega)
    have HG := Lib.hid (swGcd_any 1000 a b (w.alloc (.cells #[.int .i64 a, .int .i64 b] 3)) (by omega) (by omega) (by omega) (by omega) (by omega))
    rw [if_pos rfl]
    clear hrd e hr
    generalize gcdI a b = g at *
    go_enter Try.func31, Try.ntmps31
    go_wp2_with (first
      | (go_at_call 42; ((with_reducible refine HR.out.mono ?_); rintro e w1 ⟨rfl, rfl⟩))
      | (go_at_call 53; ((with_reducible refine HG.out.mono ?_); rintro e w2 ⟨rfl, rfl⟩)))
    go_ret2
    exact ⟨rfl, Below.alloc1 w _⟩
  | false =>
    have hr := swParts_any _ [a, b] _ hrd (by simp)
    rw [e] at hr
    have HR := Lib.hid hr
    rw [if_neg (by simp)]
    clear hrd e hr
    go_enter Try.func31, Try.ntmps31
    go_wp2_with (go_at_call 42; ((with_reducible refine HR.out.mono ?_); rintro e w1 ⟨rfl, rfl⟩))
    go_ret2
    exact ⟨rfl, Below.alloc1 w _⟩
set_option maxHeartbeats 1000000 in
theorem impl_IndexOfThree (a b c : Int) (w : World) : Calls Try.prog 34 #[.int .i64 a, .int .i64 b, .int .i64 c] w (GivesN w (res_IndexOfThree a b c) (ok_IndexOfThree a b c)) := by
  unfold res_IndexOfThree ok_IndexOfThree
  have hrd := Own.rd (Own.lit3 w.heap.size w a b c (Nat.le_refl _))
  cases e : partsB [a, b, c] with
  | true =>
    have HR := Lib.hid (readParts_yes _ [a, b, c] _ hrd e)
    have hf := three_facts e
    have hg := gcd_bound (a + b) (b + c) (by omega) (by omega)
    have HG := Lib.hid (commonDivisor_any (a + b) (b + c) (w.alloc (.cells #[.int .i64 a, .int .i64 b, .int .i64 c] 3)) (by omega) (by omega) (by omega) (by omega))
    rw [if_pos rfl]
    clear hrd e
    generalize gcdI (a + b) (b + c) = g at *
    go_enter Try.func34, Try.ntmps34
    go_wp2_with (first
      | (go_at_call 44; ((with_reducible refine HR.out.mono ?_); rintro e w1 ⟨rfl, rfl⟩))
      | (go_at_call 54; ((with_reducible refine HG.out.mono ?_); rintro e w2 ⟨rfl, hb⟩; have HB := Lib.hid (Below.step (Below.alloc1 w _) hb); clear hb)))
    go_ret2
    exact ⟨rfl, HB.out⟩
  | false =>
    have HR := Lib.hid (readParts_no _ [a, b, c] _ hrd e)
    rw [if_neg (by simp)]
    clear hrd e
    go_enter Try.func34, Try.ntmps34
    go_wp2_with (go_at_call 44; ((with_reducible refine HR.out.mono ?_); rintro e w1 ⟨rfl, rfl⟩))
    go_ret2
    exact ⟨rfl, Below.alloc1 w _⟩
set_option maxHeartbeats 1000000 in
theorem spec_IndexOfThree (a b c : Int) (w : World) : Calls Try.prog 33 #[.int .i64 a, .int .i64 b, .int .i64 c] w (GivesN w (res_IndexOfThree a b c) (ok_IndexOfThree a b c)) := by
  unfold res_IndexOfThree ok_IndexOfThree
  have hrd := Own.rd (Own.lit3 w.heap.size w a b c (Nat.le_refl _))
  cases e : partsB [a, b, c] with
  | true =>
    have hr := swParts_any _ [a, b, c] _ hrd (by simp)
    rw [e] at hr
    have HR := Lib.hid hr
    have hf := three_facts e
    have hg := gcd_bound (a + b) (b + c) (by omega) (by omega)
    have HG := Lib.hid (swGcd_any 1000 (a + b) (b + c) (w.alloc (.cells #[.int .i64 a, .int .i64 b, .int .i64 c] 3)) (by omega) (by omega) (by omega) (by omega) (by omega))
    rw [if_pos rfl]
    clear hrd e hr
    generalize gcdI (a + b) (b + c) = g at *
    go_enter Try.func33, Try.ntmps33
    go_wp2_with (first
      | (go_at_call 42; ((with_reducible refine HR.out.mono ?_); rintro e w1 ⟨rfl, rfl⟩))
      | (go_at_call 53; ((with_reducible refine HG.out.mono ?_); rintro e w2 ⟨rfl, rfl⟩)))
    go_ret2
    exact ⟨rfl, Below.alloc1 w _⟩
  | false =>
    have hr := swParts_any _ [a, b, c] _ hrd (by simp)
    rw [e] at hr
    have HR := Lib.hid hr
    rw [if_neg (by simp)]
    clear hrd e hr
    go_enter Try.func33, Try.ntmps33
    go_wp2_with (go_at_call 42; ((with_reducible refine HR.out.mono ?_); rintro e w1 ⟨rfl, rfl⟩))
    go_ret2
    exact ⟨rfl, Below.alloc1 w _⟩
end Go.Proofs.Ytllhdmpnjcemkaa
