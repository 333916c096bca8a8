/- The order of lists of numbers in the program: cmp.Compare, slices.Compare. -/
import Derived.Test.YteeoepbbocdchaaSlice
import Derived.Test.YteeoepbbocdchaaPutMath
import Derived.Deep.QuietTactic
import Derived.BigQuiet
import Derived.IntWalk
namespace Go.Proofs.Yteeoepbbocdchaa
open Go.RowKit
set_option linter.unusedSimpArgs false
set_option linter.unusedVariables false

theorem cmpL_end {a b : List Int} {k : Nat} (ha : k = a.length) (hb : k ≤ b.length) : cmpL (a.drop k) (b.drop k) = if a.length < b.length then -1 else 0 := by
  rw [ha, List.drop_length]
  by_cases h : a.length < b.length
  · rw [if_pos h, List.drop_eq_getElem_cons h]; rfl
  · rw [if_neg h, List.drop_of_length_le (by omega)]; rfl
theorem cmpL_out {a b : List Int} {k : Nat} (ha : k < a.length) (hb : b.length ≤ k) : cmpL (a.drop k) (b.drop k) = 1 := by
  rw [List.drop_of_length_le hb, List.drop_eq_getElem_cons ha]
  rfl
theorem cmpL_two {a b : List Int} {k : Nat} (ha : k < a.length) (hb : k < b.length) : cmpL (a.drop k) (b.drop k) = if a.getD k 0 < b.getD k 0 then -1 else if b.getD k 0 < a.getD k 0 then 1 else cmpL (a.drop (k + 1)) (b.drop (k + 1)) := by
  rw [List.drop_eq_getElem_cons ha, List.drop_eq_getElem_cons hb, cmpL]
  simp [List.getD, ha, hb]

theorem isNaN_any (x : Int) (w : World) : Calls Try.prog 130 #[.int .i64 x] w fun e w' => e = .returned (.bool false) ∧ w = w' := by
  have h : (x != x) = false := by simp
  go_enter Try.func130, Try.ntmps130
  go_wp2
  go_ret
  exact ⟨rfl, rfl⟩
theorem cmpInt_lt (x y : Int) (w : World) (h : x < y) : Calls Try.prog 86 #[.int .i64 x, .int .i64 y] w fun e w' => e = .returned (.int .i64 (-1)) ∧ w = w' := by
  go_enter Try.func86, Try.ntmps86
  go_wp2_with (go_at_call 130; refine (isNaN_any _ _).mono ?_; rintro e w' ⟨rfl, rfl⟩)
  go_ret
  exact ⟨rfl, rfl⟩
theorem cmpInt_gt (x y : Int) (w : World) (h : y < x) : Calls Try.prog 86 #[.int .i64 x, .int .i64 y] w fun e w' => e = .returned (.int .i64 1) ∧ w = w' := by
  have h2 : ¬ x < y := by omega
  go_enter Try.func86, Try.ntmps86
  go_wp2_with (go_at_call 130; refine (isNaN_any _ _).mono ?_; rintro e w' ⟨rfl, rfl⟩)
  go_ret
  exact ⟨rfl, rfl⟩
theorem cmpInt_eq (x : Int) (w : World) : Calls Try.prog 86 #[.int .i64 x, .int .i64 x] w fun e w' => e = .returned (.int .i64 0) ∧ w = w' := by
  have h2 : ¬ x < x := by omega
  go_enter Try.func86, Try.ntmps86
  go_wp2_with (go_at_call 130; refine (isNaN_any _ _).mono ?_; rintro e w' ⟨rfl, rfl⟩)
  go_ret
  exact ⟨rfl, rfl⟩

set_option maxHeartbeats 1000000 in
theorem slicesCompare_any (u v : Value) (a b : List Int) (w : World) (ha : Rd w u a) (hb : Rd w v b) :
    Calls Try.prog 51 #[u, v] w fun e w' => e = .returned (.int .i64 (cmpL a b)) ∧ w = w' := by
  obtain ⟨ad1, c1, rfl, hlc1, hcm1, hn1, hc1⟩ := ha
  obtain ⟨ad2, c2, rfl, hlc2, hcm2, hn2, hc2⟩ := hb
  unfold maxLen at hcm1 hcm2
  have HC1 := Lib.hid hc1; have HC2 := Lib.hid hc2
  have HE := Lib.hid (fun k => @cmpL_end a b k); have HO := Lib.hid (fun k => @cmpL_out a b k); have HT := Lib.hid (fun k => @cmpL_two a b k)
  clear hc1 hc2 hn1 hn2
  have h0 : Hid (cmpL a b = cmpL (a.drop 0) (b.drop 0)) := Lib.hid rfl
  go_enter Try.func51, Try.ntmps51
  go_wp2
  go_loop [11] (fun i => ∃ k : Nat, k ≤ a.length ∧ k ≤ b.length ∧ i = .int .i64 k ∧ Hid (cmpL a b = cmpL (a.drop k) (b.drop k))) (fun i => a.length - (intOf i).toNat)
  case atStart => exact ⟨0, by omega, by omega, rfl, h0⟩
  case round =>
    clear h0
    obtain ⟨k, hk, hkb, rfl, he⟩ := hrel
    replace he := he.out
    by_cases hlt : k < a.length
    · obtain ⟨g1, off1, rfl, hr1⟩ : ∃ g off, ad1 = some ⟨g, off, none⟩ ∧ ∀ k, k < a.length → w.cell? ⟨g, off + k, none⟩ = some (.int .i64 (a.getD k 0)) := by
        rcases HC1.out with rfl | ⟨g, off, h1, h2⟩
        · simp at hlt
        · exact ⟨g, off, h1, h2⟩
      have hx1 := hr1 k hlt
      by_cases hlb : k < b.length
      · obtain ⟨g2, off2, rfl, hr2⟩ : ∃ g off, ad2 = some ⟨g, off, none⟩ ∧ ∀ k, k < b.length → w.cell? ⟨g, off + k, none⟩ = some (.int .i64 (b.getD k 0)) := by
          rcases HC2.out with rfl | ⟨g, off, h1, h2⟩
          · simp at hlb
          · exact ⟨g, off, h1, h2⟩
        have hx2 := hr2 k hlb
        have ht := HT.out k hlt hlb
        rw [ht] at he
        clear hr1 hr2 ht
        generalize a.getD k 0 = x at *
        generalize b.getD k 0 = y at *
        by_cases e1 : x < y
        · rw [if_pos e1] at he
          have HEQ := Lib.hid he
          have HC := Lib.hid (fun w => cmpInt_lt x y w e1)
          clear he e1
          go_wp2_with (go_at_call 86; refine (HC.out _).mono ?_; rintro e w' ⟨rfl, rfl⟩)
          go_ret
          exact ⟨by rw [HEQ.out]; rfl, rfl⟩
        · rw [if_neg e1] at he
          by_cases e2 : y < x
          · rw [if_pos e2] at he
            have HEQ := Lib.hid he
            have HC := Lib.hid (fun w => cmpInt_gt x y w e2)
            clear he e1 e2
            go_wp2_with (go_at_call 86; refine (HC.out _).mono ?_; rintro e w' ⟨rfl, rfl⟩)
            go_ret
            exact ⟨by rw [HEQ.out]; rfl, rfl⟩
          · rw [if_neg e2] at he
            have HEQ := Lib.hid he
            have e3 : y = x := by omega
            subst e3
            have HC := Lib.hid (fun w => cmpInt_eq y w)
            clear he e1 e2
            go_wp2_with (go_at_call 86; refine (HC.out _).mono ?_; rintro e w' ⟨rfl, rfl⟩)
            go_round
            case rel => exact ⟨k + 1, by omega, by omega, by go_num, HEQ⟩
            case measure => simp [intOf]; omega
      · have ho := HO.out k hlt (by omega)
        rw [ho] at he
        have HEQ := Lib.hid he
        clear he hr1
        go_wp2
        go_ret
        exact ⟨by rw [HEQ.out]; rfl, rfl⟩
    · obtain rfl : k = a.length := by omega
      have ho := HE.out a.length rfl hkb
      rw [ho] at he
      by_cases hab : a.length < b.length
      · rw [if_pos hab] at he
        have HEQ := Lib.hid he
        clear he
        go_wp2
        go_ret
        exact ⟨by rw [HEQ.out]; rfl, rfl⟩
      · rw [if_neg hab] at he
        have HEQ := Lib.hid he
        clear he
        go_wp2
        go_ret
        exact ⟨by rw [HEQ.out]; rfl, rfl⟩


end Go.Proofs.Yteeoepbbocdchaa
