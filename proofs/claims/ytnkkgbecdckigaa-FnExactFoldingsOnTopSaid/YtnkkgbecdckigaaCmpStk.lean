/- The order of stacks in the program: cmp.Compare, slices.Compare, compareStacks. -/
import Derived.Test.YtnkkgbecdckigaaStk
import Derived.Test.YtnkkgbecdckigaaPutMath
import Derived.Deep.QuietTactic
import Derived.BigQuiet
import Derived.IntWalk
import Derived.Sort.Grow
namespace Go.Proofs.Ytnkkgbecdckigaa
open Go.RowKit
set_option linter.unusedSimpArgs false
set_option linter.unusedVariables false

theorem cmpL_end {a b : List Int} {k : Nat} (ha : k = a.length) (hb : k ≤ b.length) : cmpL (a.drop k) (b.drop k) = if a.length < b.length then -1 else 0 := by
  rw [ha, List.drop_length]
  by_cases h : a.length < b.length
  · rw [if_pos h, List.drop_eq_getElem_cons h]; rfl
  · rw [if_neg h, List.drop_of_length_le (by omega)]; rfl
theorem cmpL_out {a b : List Int} {k : Nat} (ha : k < a.length) (hb : b.length ≤ k) : cmpL (a.drop k) (b.drop k) = 1 := by
  rw [List.drop_of_length_le hb, List.drop_eq_getElem_cons ha]
  rfl
theorem cmpL_two {a b : List Int} {k : Nat} (ha : k < a.length) (hb : k < b.length) : cmpL (a.drop k) (b.drop k) = if a.getD k 0 < b.getD k 0 then -1 else if b.getD k 0 < a.getD k 0 then 1 else cmpL (a.drop (k + 1)) (b.drop (k + 1)) := by
  rw [List.drop_eq_getElem_cons ha, List.drop_eq_getElem_cons hb, cmpL]
  simp [List.getD, ha, hb]

theorem isNaN_any (x : Int) (w : World) : Calls Try.prog 100 #[.int .i64 x] w fun e w' => e = .returned (.bool false) ∧ w = w' := by
  have h : (x != x) = false := by simp
  go_enter Try.func100, Try.ntmps100
  go_wp2
  go_ret
  exact ⟨rfl, rfl⟩
theorem cmpInt_lt (x y : Int) (w : World) (h : x < y) : Calls Try.prog 94 #[.int .i64 x, .int .i64 y] w fun e w' => e = .returned (.int .i64 (-1)) ∧ w = w' := by
  go_enter Try.func94, Try.ntmps94
  go_wp2_with (go_at_call 100; refine (isNaN_any _ _).mono ?_; rintro e w' ⟨rfl, rfl⟩)
  go_ret
  exact ⟨rfl, rfl⟩
theorem cmpInt_gt (x y : Int) (w : World) (h : y < x) : Calls Try.prog 94 #[.int .i64 x, .int .i64 y] w fun e w' => e = .returned (.int .i64 1) ∧ w = w' := by
  have h2 : ¬ x < y := by omega
  go_enter Try.func94, Try.ntmps94
  go_wp2_with (go_at_call 100; refine (isNaN_any _ _).mono ?_; rintro e w' ⟨rfl, rfl⟩)
  go_ret
  exact ⟨rfl, rfl⟩
theorem cmpInt_eq (x : Int) (w : World) : Calls Try.prog 94 #[.int .i64 x, .int .i64 x] w fun e w' => e = .returned (.int .i64 0) ∧ w = w' := by
  have h2 : ¬ x < x := by omega
  go_enter Try.func94, Try.ntmps94
  go_wp2_with (go_at_call 100; refine (isNaN_any _ _).mono ?_; rintro e w' ⟨rfl, rfl⟩)
  go_ret
  exact ⟨rfl, rfl⟩

set_option maxHeartbeats 1000000 in
theorem slicesCompare_any (u v : Value) (a b : List Int) (w : World) (ha : Rd w u a) (hb : Rd w v b) :
    Calls Try.prog 80 #[u, v] w fun e w' => e = .returned (.int .i64 (cmpL a b)) ∧ w = w' := by
  obtain ⟨ad1, c1, rfl, hlc1, hcm1, hn1, hc1⟩ := ha
  obtain ⟨ad2, c2, rfl, hlc2, hcm2, hn2, hc2⟩ := hb
  unfold maxLen at hcm1 hcm2
  have HC1 := Lib.hid hc1; have HC2 := Lib.hid hc2
  have HE := Lib.hid (fun k => @cmpL_end a b k); have HO := Lib.hid (fun k => @cmpL_out a b k); have HT := Lib.hid (fun k => @cmpL_two a b k)
  clear hc1 hc2 hn1 hn2
  have h0 : Hid (cmpL a b = cmpL (a.drop 0) (b.drop 0)) := Lib.hid rfl
  go_enter Try.func80, Try.ntmps80
  go_wp2
  go_loop [11] (fun i => ∃ k : Nat, k ≤ a.length ∧ k ≤ b.length ∧ i = .int .i64 k ∧ Hid (cmpL a b = cmpL (a.drop k) (b.drop k))) (fun i => a.length - (intOf i).toNat)
  case atStart => exact ⟨0, by omega, by omega, rfl, h0⟩
  case round =>
    clear h0
    obtain ⟨k, hk, hkb, rfl, he⟩ := hrel
    replace he := he.out
    by_cases hlt : k < a.length
    · obtain ⟨g1, off1, rfl, hr1⟩ : ∃ g off, ad1 = some ⟨g, off, none⟩ ∧ ∀ k, k < a.length → w.cell? ⟨g, off + k, none⟩ = some (.int .i64 (a.getD k 0)) := by
        rcases HC1.out with rfl | ⟨g, off, h1, h2⟩
        · simp at hlt
        · exact ⟨g, off, h1, h2⟩
      have hx1 := hr1 k hlt
      by_cases hlb : k < b.length
      · obtain ⟨g2, off2, rfl, hr2⟩ : ∃ g off, ad2 = some ⟨g, off, none⟩ ∧ ∀ k, k < b.length → w.cell? ⟨g, off + k, none⟩ = some (.int .i64 (b.getD k 0)) := by
          rcases HC2.out with rfl | ⟨g, off, h1, h2⟩
          · simp at hlb
          · exact ⟨g, off, h1, h2⟩
        have hx2 := hr2 k hlb
        have ht := HT.out k hlt hlb
        rw [ht] at he
        clear hr1 hr2 ht
        generalize a.getD k 0 = x at *
        generalize b.getD k 0 = y at *
        by_cases e1 : x < y
        · rw [if_pos e1] at he
          have HEQ := Lib.hid he
          have HC := Lib.hid (fun w => cmpInt_lt x y w e1)
          clear he e1
          go_wp2_with (go_at_call 94; refine (HC.out _).mono ?_; rintro e w' ⟨rfl, rfl⟩)
          go_ret
          exact ⟨by rw [HEQ.out]; rfl, rfl⟩
        · rw [if_neg e1] at he
          by_cases e2 : y < x
          · rw [if_pos e2] at he
            have HEQ := Lib.hid he
            have HC := Lib.hid (fun w => cmpInt_gt x y w e2)
            clear he e1 e2
            go_wp2_with (go_at_call 94; refine (HC.out _).mono ?_; rintro e w' ⟨rfl, rfl⟩)
            go_ret
            exact ⟨by rw [HEQ.out]; rfl, rfl⟩
          · rw [if_neg e2] at he
            have HEQ := Lib.hid he
            have e3 : y = x := by omega
            subst e3
            have HC := Lib.hid (fun w => cmpInt_eq y w)
            clear he e1 e2
            go_wp2_with (go_at_call 94; refine (HC.out _).mono ?_; rintro e w' ⟨rfl, rfl⟩)
            go_round
            case rel => exact ⟨k + 1, by omega, by omega, by go_num, HEQ⟩
            case measure => simp [intOf]; omega
      · have ho := HO.out k hlt (by omega)
        rw [ho] at he
        have HEQ := Lib.hid he
        clear he hr1
        go_wp2
        go_ret
        exact ⟨by rw [HEQ.out]; rfl, rfl⟩
    · obtain rfl : k = a.length := by omega
      have ho := HE.out a.length rfl hkb
      rw [ho] at he
      by_cases hab : a.length < b.length
      · rw [if_pos hab] at he
        have HEQ := Lib.hid he
        clear he
        go_wp2
        go_ret
        exact ⟨by rw [HEQ.out]; rfl, rfl⟩
      · rw [if_neg hab] at he
        have HEQ := Lib.hid he
        clear he
        go_wp2
        go_ret
        exact ⟨by rw [HEQ.out]; rfl, rfl⟩

theorem grown_two (w : World) (A B : Obj) (n : Nat) : ∃ q os', ((w.alloc A).alloc B).drewN n = Go.Sort.grow (w.drewN q) os' :=
  ⟨n, #[A] ++ #[B], by rw [Go.Sort.alloc_eq_grow, Go.Sort.alloc_eq_grow, Go.Sort.grow_grow]; rfl⟩

set_option maxHeartbeats 2000000 in
theorem compareStacks_any (a b : List Int) (w : World) (ha : a.length ≤ 8) (hb : b.length ≤ 8) :
    Calls Try.prog 65 #[.agg (stkC a), .agg (stkC b)] w fun e w' => e = .returned (.int .i64 (cmpL a b)) ∧ ∃ q os', w' = Go.Sort.grow (w.drewN q) os' := by
  have hs1 : StkIn ((w.alloc (.cells (stkC a) 42)).alloc (.cells (stkC b) 42)) w.heap.size a := StkIn.below (heap_alloc_new w _) (Below.alloc1 _ _)
  have hs2 : StkIn ((w.alloc (.cells (stkC a) 42)).alloc (.cells (stkC b) 42)) (w.heap.size + 1) b := by
    have := heap_alloc_new (w.alloc (.cells (stkC a) 42)) (.cells (stkC b) 42)
    rw [World.size_alloc] at this
    exact this
  have hc1 := hs1.size ha
  have hc2 := hs2.size hb
  have hr1 := hs1.rd ha
  have hr2 := hs2.rd hb
  have hx := fun q => slicesCompare_any _ _ a b _ (Rd.drewN hr1 q) (Rd.drewN hr2 q)
  have hx2 : ∀ q, Calls Try.prog 80 #[.slice (some ⟨w.heap.size, 0, none⟩) a.length 8, .slice (some ⟨w.heap.size + 1, 0, none⟩) b.length 8] (((w.alloc (.cells (stkC a) 42)).alloc (.cells (stkC b) 42)).drewN q) fun e w' => e = .returned (.int .i64 (cmpL a b)) ∧ w' = ((w.alloc (.cells (stkC a) 42)).alloc (.cells (stkC b) 42)).drewN q := fun q => (hx q).mono fun _ _ ⟨h1, h2⟩ => ⟨h1, h2.symm⟩
  have HX := Lib.hid hx2
  obtain ⟨n, hn⟩ : ∃ n, n = a.length := ⟨_, rfl⟩
  obtain ⟨m, hm⟩ : ∃ m, m = b.length := ⟨_, rfl⟩
  rw [← hn] at hc1 ha HX
  rw [← hm] at hc2 hb HX
  generalize cmpL a b = r at *
  have hal := fun b w => run_stamps b n w ha
  have hal2 := fun b w => run_stamps b m w hb
  clear hs1 hs2 hr1 hr2 hx hx2 hn hm
  go_enter Try.func65, Try.ntmps65
  go_wp2
  go_quiet ((go_at_call 80; with_reducible exact Calls.quiet_of_same (HX.out _)))
  go_wp2
  go_ret
  exact ⟨rfl, grown_two w _ _ _⟩

end Go.Proofs.Ytnkkgbecdckigaa
