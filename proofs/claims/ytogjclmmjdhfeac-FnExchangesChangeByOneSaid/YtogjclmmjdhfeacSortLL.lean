/- The order of lists of numbers in the program: cmp.Compare, slices.Compare. -/
/- A contract of the library laid at this program. -/
/- A contract of the library laid at this program. -/
/- The rows of a slice of slices in another order. -/
/- slices.SortFunc on slices of ints with slices.Compare. -/
import Derived.Test.YtogjclmmjdhfeacOwn
import Derived.Test.YtogjclmmjdhfeacPutMath
import Derived.Deep.QuietTactic
import Derived.BigQuiet
import Derived.IntWalk
import Derived.Test.YtogjclmmjdhfeacProg
import Derived.Shelf.SlSortCmp.NoneTotal
import Derived.Test.YtogjclmmjdhfeacListsLaw
import Derived.Test.YtogjclmmjdhfeacLLPut
namespace Go.Proofs.Ytogjclmmjdhfeac
open Go.RowKit
set_option linter.unusedSimpArgs false
set_option linter.unusedVariables false

theorem cmpL_end {a b : List Int} {k : Nat} (ha : k = a.length) (hb : k ≤ b.length) : cmpL (a.drop k) (b.drop k) = if a.length < b.length then -1 else 0 := by
  rw [ha, List.drop_length]
  by_cases h : a.length < b.length
  · rw [if_pos h, List.drop_eq_getElem_cons h]; rfl
  · rw [if_neg h, List.drop_of_length_le (by omega)]; rfl
theorem cmpL_out {a b : List Int} {k : Nat} (ha : k < a.length) (hb : b.length ≤ k) : cmpL (a.drop k) (b.drop k) = 1 := by
  rw [List.drop_of_length_le hb, List.drop_eq_getElem_cons ha]
  rfl
theorem cmpL_two {a b : List Int} {k : Nat} (ha : k < a.length) (hb : k < b.length) : cmpL (a.drop k) (b.drop k) = if a.getD k 0 < b.getD k 0 then -1 else if b.getD k 0 < a.getD k 0 then 1 else cmpL (a.drop (k + 1)) (b.drop (k + 1)) := by
  rw [List.drop_eq_getElem_cons ha, List.drop_eq_getElem_cons hb, cmpL]
  simp [List.getD, ha, hb]

theorem isNaN_any (x : Int) (w : World) : Calls Try.prog 120 #[.int .i64 x] w fun e w' => e = .returned (.bool false) ∧ w = w' := by
  have h : (x != x) = false := by simp
  go_enter Try.func120, Try.ntmps120
  go_wp2
  go_ret
  exact ⟨rfl, rfl⟩
theorem cmpInt_lt (x y : Int) (w : World) (h : x < y) : Calls Try.prog 95 #[.int .i64 x, .int .i64 y] w fun e w' => e = .returned (.int .i64 (-1)) ∧ w = w' := by
  go_enter Try.func95, Try.ntmps95
  go_wp2_with (go_at_call 120; refine (isNaN_any _ _).mono ?_; rintro e w' ⟨rfl, rfl⟩)
  go_ret
  exact ⟨rfl, rfl⟩
theorem cmpInt_gt (x y : Int) (w : World) (h : y < x) : Calls Try.prog 95 #[.int .i64 x, .int .i64 y] w fun e w' => e = .returned (.int .i64 1) ∧ w = w' := by
  have h2 : ¬ x < y := by omega
  go_enter Try.func95, Try.ntmps95
  go_wp2_with (go_at_call 120; refine (isNaN_any _ _).mono ?_; rintro e w' ⟨rfl, rfl⟩)
  go_ret
  exact ⟨rfl, rfl⟩
theorem cmpInt_eq (x : Int) (w : World) : Calls Try.prog 95 #[.int .i64 x, .int .i64 x] w fun e w' => e = .returned (.int .i64 0) ∧ w = w' := by
  have h2 : ¬ x < x := by omega
  go_enter Try.func95, Try.ntmps95
  go_wp2_with (go_at_call 120; refine (isNaN_any _ _).mono ?_; rintro e w' ⟨rfl, rfl⟩)
  go_ret
  exact ⟨rfl, rfl⟩

set_option maxHeartbeats 1000000 in
theorem slicesCompare_any (u v : Value) (a b : List Int) (w : World) (ha : Rd w u a) (hb : Rd w v b) :
    Calls Try.prog 63 #[u, v] w fun e w' => e = .returned (.int .i64 (cmpL a b)) ∧ w = w' := by
  obtain ⟨ad1, c1, rfl, hlc1, hcm1, hn1, hc1⟩ := ha
  obtain ⟨ad2, c2, rfl, hlc2, hcm2, hn2, hc2⟩ := hb
  unfold maxLen at hcm1 hcm2
  have HC1 := Lib.hid hc1; have HC2 := Lib.hid hc2
  have HE := Lib.hid (fun k => @cmpL_end a b k); have HO := Lib.hid (fun k => @cmpL_out a b k); have HT := Lib.hid (fun k => @cmpL_two a b k)
  clear hc1 hc2 hn1 hn2
  have h0 : Hid (cmpL a b = cmpL (a.drop 0) (b.drop 0)) := Lib.hid rfl
  go_enter Try.func63, Try.ntmps63
  go_wp2
  go_loop [11] (fun i => ∃ k : Nat, k ≤ a.length ∧ k ≤ b.length ∧ i = .int .i64 k ∧ Hid (cmpL a b = cmpL (a.drop k) (b.drop k))) (fun i => a.length - (intOf i).toNat)
  case atStart => exact ⟨0, by omega, by omega, rfl, h0⟩
  case round =>
    clear h0
    obtain ⟨k, hk, hkb, rfl, he⟩ := hrel
    replace he := he.out
    by_cases hlt : k < a.length
    · obtain ⟨g1, off1, rfl, hr1⟩ : ∃ g off, ad1 = some ⟨g, off, none⟩ ∧ ∀ k, k < a.length → w.cell? ⟨g, off + k, none⟩ = some (.int .i64 (a.getD k 0)) := by
        rcases HC1.out with rfl | ⟨g, off, h1, h2⟩
        · simp at hlt
        · exact ⟨g, off, h1, h2⟩
      have hx1 := hr1 k hlt
      by_cases hlb : k < b.length
      · obtain ⟨g2, off2, rfl, hr2⟩ : ∃ g off, ad2 = some ⟨g, off, none⟩ ∧ ∀ k, k < b.length → w.cell? ⟨g, off + k, none⟩ = some (.int .i64 (b.getD k 0)) := by
          rcases HC2.out with rfl | ⟨g, off, h1, h2⟩
          · simp at hlb
          · exact ⟨g, off, h1, h2⟩
        have hx2 := hr2 k hlb
        have ht := HT.out k hlt hlb
        rw [ht] at he
        clear hr1 hr2 ht
        generalize a.getD k 0 = x at *
        generalize b.getD k 0 = y at *
        by_cases e1 : x < y
        · rw [if_pos e1] at he
          have HEQ := Lib.hid he
          have HC := Lib.hid (fun w => cmpInt_lt x y w e1)
          clear he e1
          go_wp2_with (go_at_call 95; refine (HC.out _).mono ?_; rintro e w' ⟨rfl, rfl⟩)
          go_ret
          exact ⟨by rw [HEQ.out]; rfl, rfl⟩
        · rw [if_neg e1] at he
          by_cases e2 : y < x
          · rw [if_pos e2] at he
            have HEQ := Lib.hid he
            have HC := Lib.hid (fun w => cmpInt_gt x y w e2)
            clear he e1 e2
            go_wp2_with (go_at_call 95; refine (HC.out _).mono ?_; rintro e w' ⟨rfl, rfl⟩)
            go_ret
            exact ⟨by rw [HEQ.out]; rfl, rfl⟩
          · rw [if_neg e2] at he
            have HEQ := Lib.hid he
            have e3 : y = x := by omega
            subst e3
            have HC := Lib.hid (fun w => cmpInt_eq y w)
            clear he e1 e2
            go_wp2_with (go_at_call 95; refine (HC.out _).mono ?_; rintro e w' ⟨rfl, rfl⟩)
            go_round
            case rel => exact ⟨k + 1, by omega, by omega, by go_num, HEQ⟩
            case measure => simp [intOf]; omega
      · have ho := HO.out k hlt (by omega)
        rw [ho] at he
        have HEQ := Lib.hid he
        clear he hr1
        go_wp2
        go_ret
        exact ⟨by rw [HEQ.out]; rfl, rfl⟩
    · obtain rfl : k = a.length := by omega
      have ho := HE.out a.length rfl hkb
      rw [ho] at he
      by_cases hab : a.length < b.length
      · rw [if_pos hab] at he
        have HEQ := Lib.hid he
        clear he
        go_wp2
        go_ret
        exact ⟨by rw [HEQ.out]; rfl, rfl⟩
      · rw [if_neg hab] at he
        have HEQ := Lib.hid he
        clear he
        go_wp2
        go_ret
        exact ⟨by rw [HEQ.out]; rfl, rfl⟩


end Go.Proofs.Ytogjclmmjdhfeac

namespace Go.Proofs.Ytogjclmmjdhfeac
open Go.Shelf Go.Proofs
def sortLL_ren : Go.Shelf.Ren := ⟨fun | 6 => 62 | 15 => 94 | 14 => 93 | 28 => 118 | 29 => 119 | 20 => 110 | 21 => 111 | 22 => 112 | 23 => 113 | 24 => 114 | 25 => 115 | 26 => 116 | 27 => 117 | 46 => 123 | 47 => 124 | 48 => 125 | 49 => 126 | 50 => 127 | 57 => 128 | n => n,
  fun | 22 => 34 | 24 => 24 | 25 => 49 | 3 => 3 | 39 => 103 | 0 => 0 | 53 => 129 | 55 => 64 | 4 => 4 | 46 => 123 | 45 => 122 | 50 => 31 | 5 => 5 | 9 => 9 | 66 => 136 | 70 => 140 | 76 => 142 | 77 => 143 | n => n,
  fun | n => n⟩
theorem sortLL : Go.Proofs.SlLaysF0.n6 Try.prog sortLL_ren := {
  mixed := by kernel_rfl
  f6 := ⟨Try.f62.name, by decide, Try.func62.trans (congrArg some (by kernel_rfl))⟩
  f14 := ⟨Try.f93.name, by decide, Try.func93.trans (congrArg some (by kernel_rfl))⟩
  f15 := Try.func94.trans (congrArg some (by kernel_rfl))
  f20 := ⟨Try.f110.name, by decide, Try.func110.trans (congrArg some (by kernel_rfl))⟩
  f21 := ⟨Try.f111.name, by decide, Try.func111.trans (congrArg some (by kernel_rfl))⟩
  f22 := ⟨Try.f112.name, by decide, Try.func112.trans (congrArg some (by kernel_rfl))⟩
  f23 := ⟨Try.f113.name, by decide, Try.func113.trans (congrArg some (by kernel_rfl))⟩
  f24 := ⟨Try.f114.name, by decide, Try.func114.trans (congrArg some (by kernel_rfl))⟩
  f25 := ⟨Try.f115.name, by decide, Try.func115.trans (congrArg some (by kernel_rfl))⟩
  f26 := ⟨Try.f116.name, by decide, Try.func116.trans (congrArg some (by kernel_rfl))⟩
  f27 := ⟨Try.f117.name, by decide, Try.func117.trans (congrArg some (by kernel_rfl))⟩
  f28 := Try.func118.trans (congrArg some (by kernel_rfl))
  f29 := Try.func119.trans (congrArg some (by kernel_rfl))
  f46 := ⟨Try.f123.name, by decide, Try.func123.trans (congrArg some (by kernel_rfl))⟩
  f47 := Try.func124.trans (congrArg some (by kernel_rfl))
  f48 := Try.func125.trans (congrArg some (by kernel_rfl))
  f49 := ⟨Try.f126.name, by decide, Try.func126.trans (congrArg some (by kernel_rfl))⟩
  f50 := ⟨Try.f127.name, by decide, Try.func127.trans (congrArg some (by kernel_rfl))⟩
  f57 := ⟨Try.f128.name, by decide, Try.func128.trans (congrArg some (by kernel_rfl))⟩
  t0 := Try.underlying0
  a0 := Try.isAgg0
  z0 := Try.sizeOf0
  v0 := Try.zeroValue0
  t3 := Try.underlying3
  a3 := Try.isAgg3
  z3 := Try.sizeOf3
  v3 := Try.zeroValue3
  t4 := Try.underlying4
  a4 := Try.isAgg4
  z4 := Try.sizeOf4
  v4 := Try.zeroValue4
  t5 := Try.underlying5
  a5 := Try.isAgg5
  z5 := Try.sizeOf5
  v5 := Try.zeroValue5
  t9 := Try.underlying9
  a9 := Try.isAgg9
  z9 := Try.sizeOf9
  v9 := Try.zeroValue9
  t22 := Try.underlying34
  a22 := Try.isAgg34
  z22 := Try.sizeOf34
  v22 := Try.zeroValue34
  t25 := Try.underlying49
  a25 := Try.isAgg49
  z25 := Try.sizeOf49
  v25 := Try.zeroValue49
  t39 := Try.underlying103
  a39 := Try.isAgg103
  z39 := Try.sizeOf103
  v39 := Try.zeroValue103
  t45 := Try.underlying122
  a45 := Try.isAgg122
  z45 := Try.sizeOf122
  v45 := Try.zeroValue122
  t46 := Try.underlying123
  a46 := Try.isAgg123
  z46 := Try.sizeOf123
  v46 := Try.zeroValue123
  t50 := Try.underlying31
  a50 := Try.isAgg31
  z50 := Try.sizeOf31
  v50 := Try.zeroValue31
  t53 := Try.underlying129
  a53 := Try.isAgg129
  z53 := Try.sizeOf129
  v53 := Try.zeroValue129
  t55 := Try.underlying64
  a55 := Try.isAgg64
  z55 := Try.sizeOf64
  v55 := Try.zeroValue64
  t66 := Try.underlying136
  a66 := Try.isAgg136
  z66 := Try.sizeOf136
  v66 := Try.zeroValue136
  t70 := Try.underlying140
  a70 := Try.isAgg140
  z70 := Try.sizeOf140
  v70 := Try.zeroValue140
  t76 := Try.underlying142
  a76 := Try.isAgg142
  z76 := Try.sizeOf142
  v76 := Try.zeroValue142
  t77 := Try.underlying143
  a77 := Try.isAgg143
  z77 := Try.sizeOf143
  v77 := Try.zeroValue143 }
end Go.Proofs.Ytogjclmmjdhfeac

namespace Go.Proofs.Ytogjclmmjdhfeac
open Go.Shelf Go.Proofs
def sortLE_ren : Go.Shelf.Ren := ⟨fun | 6 => 62 | 15 => 94 | 14 => 93 | 28 => 118 | 29 => 119 | 20 => 110 | 21 => 111 | 22 => 112 | 23 => 113 | 24 => 114 | 25 => 115 | 26 => 116 | 27 => 117 | 46 => 123 | 47 => 124 | 48 => 125 | 49 => 126 | 50 => 127 | 57 => 128 | n => n,
  fun | 22 => 34 | 24 => 24 | 25 => 49 | 3 => 3 | 39 => 103 | 0 => 0 | 53 => 129 | 55 => 64 | 4 => 4 | 46 => 123 | 45 => 122 | 50 => 31 | 5 => 5 | 9 => 9 | 66 => 136 | 70 => 140 | 76 => 142 | 77 => 143 | n => n,
  fun | n => n⟩
theorem sortLE : Go.Proofs.SlLaysF.n6 Try.prog sortLE_ren := {
  mixed := by kernel_rfl
  f6 := ⟨Try.f62.name, by decide, Try.func62.trans (congrArg some (by kernel_rfl))⟩
  f14 := ⟨Try.f93.name, by decide, Try.func93.trans (congrArg some (by kernel_rfl))⟩
  f15 := Try.func94.trans (congrArg some (by kernel_rfl))
  f20 := ⟨Try.f110.name, by decide, Try.func110.trans (congrArg some (by kernel_rfl))⟩
  f21 := ⟨Try.f111.name, by decide, Try.func111.trans (congrArg some (by kernel_rfl))⟩
  f22 := ⟨Try.f112.name, by decide, Try.func112.trans (congrArg some (by kernel_rfl))⟩
  f23 := ⟨Try.f113.name, by decide, Try.func113.trans (congrArg some (by kernel_rfl))⟩
  f24 := ⟨Try.f114.name, by decide, Try.func114.trans (congrArg some (by kernel_rfl))⟩
  f25 := ⟨Try.f115.name, by decide, Try.func115.trans (congrArg some (by kernel_rfl))⟩
  f26 := ⟨Try.f116.name, by decide, Try.func116.trans (congrArg some (by kernel_rfl))⟩
  f27 := ⟨Try.f117.name, by decide, Try.func117.trans (congrArg some (by kernel_rfl))⟩
  f28 := Try.func118.trans (congrArg some (by kernel_rfl))
  f29 := Try.func119.trans (congrArg some (by kernel_rfl))
  f46 := ⟨Try.f123.name, by decide, Try.func123.trans (congrArg some (by kernel_rfl))⟩
  f47 := Try.func124.trans (congrArg some (by kernel_rfl))
  f48 := Try.func125.trans (congrArg some (by kernel_rfl))
  f49 := ⟨Try.f126.name, by decide, Try.func126.trans (congrArg some (by kernel_rfl))⟩
  f50 := ⟨Try.f127.name, by decide, Try.func127.trans (congrArg some (by kernel_rfl))⟩
  f57 := ⟨Try.f128.name, by decide, Try.func128.trans (congrArg some (by kernel_rfl))⟩
  t0 := Try.underlying0
  a0 := Try.isAgg0
  z0 := Try.sizeOf0
  v0 := Try.zeroValue0
  t3 := Try.underlying3
  a3 := Try.isAgg3
  z3 := Try.sizeOf3
  v3 := Try.zeroValue3
  t4 := Try.underlying4
  a4 := Try.isAgg4
  z4 := Try.sizeOf4
  v4 := Try.zeroValue4
  t5 := Try.underlying5
  a5 := Try.isAgg5
  z5 := Try.sizeOf5
  v5 := Try.zeroValue5
  t9 := Try.underlying9
  a9 := Try.isAgg9
  z9 := Try.sizeOf9
  v9 := Try.zeroValue9
  t22 := Try.underlying34
  a22 := Try.isAgg34
  z22 := Try.sizeOf34
  v22 := Try.zeroValue34
  a24 := Try.isAgg24
  z24 := Try.sizeOf24
  t25 := Try.underlying49
  a25 := Try.isAgg49
  z25 := Try.sizeOf49
  v25 := Try.zeroValue49
  t39 := Try.underlying103
  a39 := Try.isAgg103
  z39 := Try.sizeOf103
  v39 := Try.zeroValue103
  t45 := Try.underlying122
  a45 := Try.isAgg122
  z45 := Try.sizeOf122
  v45 := Try.zeroValue122
  t46 := Try.underlying123
  a46 := Try.isAgg123
  z46 := Try.sizeOf123
  v46 := Try.zeroValue123
  t50 := Try.underlying31
  a50 := Try.isAgg31
  z50 := Try.sizeOf31
  v50 := Try.zeroValue31
  t53 := Try.underlying129
  a53 := Try.isAgg129
  z53 := Try.sizeOf129
  v53 := Try.zeroValue129
  t55 := Try.underlying64
  a55 := Try.isAgg64
  z55 := Try.sizeOf64
  v55 := Try.zeroValue64
  t66 := Try.underlying136
  a66 := Try.isAgg136
  z66 := Try.sizeOf136
  v66 := Try.zeroValue136
  t70 := Try.underlying140
  a70 := Try.isAgg140
  z70 := Try.sizeOf140
  v70 := Try.zeroValue140
  t76 := Try.underlying142
  a76 := Try.isAgg142
  z76 := Try.sizeOf142
  v76 := Try.zeroValue142
  t77 := Try.underlying143
  a77 := Try.isAgg143
  z77 := Try.sizeOf143
  v77 := Try.zeroValue143 }
end Go.Proofs.Ytogjclmmjdhfeac

namespace Go.Proofs.Ytogjclmmjdhfeac
open Go.RowKit
set_option linter.unusedSimpArgs false
set_option linter.unusedVariables false

theorem OwnLL.perm {lo hi : Nat} {w w' : World} {v : Value} {vs vs' : List Value} {ls ls' : List (List Int)} (h : OwnLL lo hi w v vs ls) (s : Nat → Nat) (hs : ∀ i, i < ls.length → s i < ls.length)
    (hinj : ∀ i j, i < ls.length → j < ls.length → i ≠ j → s i ≠ s j) (hl : ls'.length = ls.length) (hv : vs'.length = ls.length)
    (hvs : ∀ i, i < ls.length → rowV vs' i = rowV vs (s i)) (hls : ∀ i, i < ls.length → ls'.getD i [] = ls.getD (s i) [])
    (hr : w'.ownsRow lo 24 1 v ls.length vs') (hk : ∀ i, i < ls.length → Own lo w' (rowV vs i) (ls.getD i [])) (hsz : w.heap.size ≤ w'.heap.size) : OwnLL lo hi w' v vs' ls' := by
  refine ⟨Nat.le_trans h.ends hsz, by rw [hv, hl], by rw [hl]; exact hr, fun i hi => ?_, h.inn, fun i hi => ?_, fun i j hi hj hne k h1 h2 => ?_⟩
  · rw [hl] at hi
    rw [hvs i hi, hls i hi]
    exact hk _ (hs i hi)
  · rw [hl] at hi
    rw [hvs i hi]
    exact h.inr _ (hs i hi)
  · rw [hl] at hi hj
    rw [hvs i hi] at h1
    rw [hvs j hj] at h2
    exact h.apart _ _ (hs i hi) (hs j hj) (hinj i j hi hj hne) k h1 h2

end Go.Proofs.Ytogjclmmjdhfeac

namespace Go.Proofs.Ytogjclmmjdhfeac
open Go.RowKit Go.Shelf Go.Sort
set_option linter.unusedSimpArgs false
set_option linter.unusedVariables false

def cfLL (ls : List (List Int)) (i j : Nat) : Int := cmpL (ls.getD i []) (ls.getD j [])
theorem ltOf_ll (ls : List (List Int)) (i j : Nat) : Go.Proofs.ltOf (cfLL ls) i j = ltL (ls.getD i []) (ls.getD j []) := rfl
theorem swoLL (ls : List (List Int)) : SWO (Go.Proofs.ltOf (cfLL ls)) where
  irrefl x := by rw [ltOf_ll]; exact ltL_irrefl _
  trans x y z h1 h2 := by rw [ltOf_ll] at *; exact ltL_trans _ _ _ h1 h2
  ntrans x y z h1 h2 := by rw [ltOf_ll] at *; exact ltL_ntrans _ _ _ h1 h2
theorem one_LL {lo hi : Nat} {w : World} {v : Value} {vs : List Value} {ls : List (List Int)} (h : OwnLL lo hi w v vs ls) : OneCell (rowV vs) := by
  intro i
  by_cases hi : i < vs.length
  · exact h.ones _ (by rw [show rowV vs i = vs[i] by simp [rowV, List.getD, hi]]; exact List.getElem_mem hi)
  · rw [show rowV vs i = .slice none 0 0 by simp [rowV, List.getD, hi]]; rfl
theorem sortL_heap {w : World} {g n k : Nat} {vs : List Value} {d : Array Nat} {os : Array Obj} (hk : k < w.heap.size) : (sortWorld (rowV vs) w g 0 n d os).heap[k]? = if g = k then (w.heap[k]?).map (onCells (putCells (rowV vs) 0 d)) else w.heap[k]? := by
  show ((w.heap.modify g (onCells (putCells (rowV vs) 0 d))) ++ os)[k]? = _
  rw [Array.getElem?_append, if_pos (by simpa using hk), Array.getElem?_modify]
theorem below_sortL {w : World} {g n : Nat} {vs : List Value} {d : Array Nat} {os : Array Obj} {B : Nat} (hg : g < w.heap.size) (hB : B ≤ g) : Below B w (sortWorld (rowV vs) w g 0 n d os) := by
  refine ⟨rfl, rfl, rfl, ?_, fun k hk => ?_⟩
  · show w.heap.size ≤ ((w.heap.modify g (onCells (putCells (rowV vs) 0 d))) ++ os).size
    simp
  · rw [sortL_heap (by omega), if_neg (by omega)]
theorem grown_sortL {w : World} {g n : Nat} {vs : List Value} {d : Array Nat} {os : Array Obj} (hg : g < w.heap.size) : w.grownBy (sortWorld (rowV vs) w g 0 n d os) (some g) := by
  refine ⟨rfl, rfl, rfl, ?_, fun k hk hne => ?_⟩
  · show w.heap.size ≤ ((w.heap.modify g (onCells (putCells (rowV vs) 0 d))) ++ os).size
    simp
  · rw [sortL_heap (by omega), if_neg (by intro e; exact hne (by rw [e]))]
theorem kept_sortL {lo hi n c g m : Nat} {w : World} {vs : List Value} {ls : List (List Int)} (h : OwnLL lo hi w (.slice (some ⟨g, 0, none⟩) n c) vs ls) (hg : g < w.heap.size) (d : Array Nat) (os : Array Obj) (i : Nat) (hi : i < ls.length) : Own lo (sortWorld (rowV vs) w g 0 m d os) (rowV vs i) (ls.getD i []) := by
  have ho := h.own i hi
  refine World.ownsRow.kept ho (grown_sortL hg) ?_
  cases e : (rowV vs i).ownBlock with
  | none => exact .inl rfl
  | some k => exact .inr fun e' => own_apart ho h.row k e e'.symm
theorem rd_nil (w : World) : Rd w (.slice none 0 0) [] := (Own.nil 0 w).rd
theorem cmpReadsLL {lo hi n c g size : Nat} {w : World} {vs : List Value} {ls : List (List Int)} (h : OwnLL lo hi w (.slice (some ⟨g, 0, none⟩) n c) vs ls) (hg : g < w.heap.size) :
    Go.Proofs.CmpReads Try.prog 63 #[] (rowV vs) (cfLL ls) g 0 size w := by
  intro m os dk _ x y
  have hr : ∀ i, Rd (sortWorld (rowV vs) w g 0 m dk os) (rowV vs i) (ls.getD i []) := fun i => by
    by_cases hi : i < ls.length
    · exact (kept_sortL h hg dk os i hi).rd
    · rw [show rowV vs i = .slice none 0 0 by simp [rowV, List.getD, h.len, hi], show ls.getD i [] = [] by simp [List.getD, hi]]
      exact rd_nil _
  exact (slicesCompare_any _ _ _ _ _ (hr x) (hr y)).mono fun e w' ⟨h1, h2⟩ => ⟨h1, 0, h2.symm⟩
theorem holds_LL {lo hi c g : Nat} {w : World} {vs : List Value} {ls : List (List Int)} (h : OwnLL lo hi w (.slice (some ⟨g, 0, none⟩) ls.length c) vs ls) : Holds (rowV vs) w g 0 (Array.range ls.length) := by
  intro j hj
  rw [Array.size_range] at hj
  have hv : j < vs.length := by rw [h.len]; exact hj
  have e : (Array.range ls.length)[j]! = j := by rw [getElem!_pos _ j (by simpa using hj)]; simp
  have e1 := World.ownsRow.cellAt h.row j (by simpa using hj)
  have e2 := World.ownsRow.frozenAt h.row j
  rw [e]
  refine ⟨?_, by simpa using e2⟩
  rw [Nat.zero_add, e1]
  simp [rowV, List.getD, hv]
theorem sorted_put {ls : List (List Int)} {d : Array Nat} (hp : PermIn 0 ls.length (Array.range ls.length) d) (hs : SortedIn (Go.Proofs.ltOf (cfLL ls)) 0 ls.length d) : d.size = ls.length ∧ d.toList.Perm (List.range ls.length) ∧ putAll ls = d.toList.map (fun i => ls.getD i []) := by
  have hsz : d.size = ls.length := by rw [hp.1]; simp
  have h3 := hp.2.2
  rw [Array.extract_eq_self_of_le (by rw [hsz]; exact Nat.le_refl _), Array.extract_eq_self_of_le (by simp)] at h3
  have h4 : d.toList.Perm (List.range ls.length) := by simpa using h3
  refine ⟨hsz, h4, putAll_eq ?_ ?_⟩
  · unfold srtL
    rw [List.pairwise_map, List.pairwise_iff_getElem]
    intro i j hi hj hij
    have hi' : i < d.size := by simpa using hi
    have hj' : j < d.size := by simpa using hj
    have := hs i j (Nat.zero_le _) hij (by rw [← hsz]; exact hj')
    rw [ltOf_ll, getElem!_pos d j hj', getElem!_pos d i hi'] at this
    simpa using this
  · have h5 := h4.map (fun i => ls.getD i [])
    have e : (List.range ls.length).map (fun i => ls.getD i []) = ls := by
      apply List.ext_getElem?
      intro t
      by_cases ht : t < ls.length
      · simp [ht, List.getD]
      · simp [ht, List.getElem?_eq_none (Nat.le_of_not_lt ht)]
    rwa [e] at h5
theorem put_takeL (enc : Nat → Value) (d : Array Nat) (cur : Array Value) (h : d.size ≤ cur.size) : (putCells enc 0 d cur).size = cur.size ∧ (putCells enc 0 d cur).toList.take d.size = d.toList.map enc := by
  unfold putCells
  refine ⟨by simp, ?_⟩
  apply List.ext_getElem?
  intro t
  rw [List.getElem?_take]
  by_cases ht : t < d.size
  · rw [if_pos ht]
    have h1 : t < cur.size := by omega
    simp [h1, ht]
  · rw [if_neg ht]
    rw [List.getElem?_eq_none (by simpa using ht)]
theorem ownLL_sortL {lo hi n2 c g m : Nat} {w : World} {vs : List Value} {ls : List (List Int)} {d : Array Nat} {os : Array Obj} (h : OwnLL lo hi w (.slice (some ⟨g, 0, none⟩) n2 c) vs ls) (hgs : g < w.heap.size)
    (hd : d.size = ls.length) (hp : d.toList.Perm (List.range ls.length)) : OwnLL lo hi (sortWorld (rowV vs) w g 0 m d os) (.slice (some ⟨g, 0, none⟩) n2 c) (d.toList.map (rowV vs)) (d.toList.map (fun i => ls.getD i [])) := by
  have hdl : d.toList.length = ls.length := by simpa using hd
  have hget : ∀ i, i < ls.length → d.toList[i]? = some (d.toList.getD i 0) := fun i hi => by simp [List.getD, hd, hi]
  have hmem : ∀ i, i < ls.length → d.toList.getD i 0 < ls.length := fun i hi => by
    have h1 : d.toList.getD i 0 ∈ d.toList := List.mem_of_getElem? (hget i hi)
    exact List.mem_range.1 (hp.mem_iff.1 h1)
  have hnd : d.toList.Nodup := hp.nodup_iff.2 List.nodup_range
  refine h.perm (fun i => d.toList.getD i 0) hmem (fun i j hi hj hne e => ?_) (by simpa using hd) (by simpa using hd) (fun i hi => ?_) (fun i hi => ?_) ?_ (fun i hi => kept_sortL h hgs d os i hi) (below_sortL hgs (Nat.le_refl _)).size
  · have h1 := hget i hi; have h2 := hget j hj
    have e' : d.toList.getD i 0 = d.toList.getD j 0 := e
    rw [e', ← h2] at h1
    exact hne ((List.getElem?_inj (by omega) hnd).1 h1)
  · show (List.map (rowV vs) d.toList).getD i _ = _
    rw [List.getD_eq_getElem?_getD, List.getElem?_map, hget i hi]; rfl
  · rw [List.getD_eq_getElem?_getD, List.getElem?_map, hget i hi]; rfl
  · rcases h.row.2 with ⟨hv, _⟩ | ⟨g', cap, cur, hv, hB, hg, hnc, hcm, hcs, ht⟩
    · cases hv
    simp only [Value.slice.injEq, Option.some.injEq, Addr.mk.injEq, and_true] at hv
    obtain ⟨rfl, rfl, rfl⟩ := hv
    have hpt := put_takeL (rowV vs) d cur (by rw [hd, hcs]; omega)
    refine ⟨by simpa using hd, .inr ⟨g, c, _, rfl, hB, by rw [sortL_heap hgs, if_pos rfl, hg]; rfl, hnc, hcm, by rw [hpt.1]; exact hcs, ?_⟩⟩
    rw [Nat.mul_one, ← hd, hpt.2]
/-- a slice of slices of ints, sorted -/
theorem sortLL_any (lo hi : Nat) (v : Value) (vs : List Value) (ls : List (List Int)) (w : World) (h : OwnLL lo hi w v vs ls) (hn : ls.length ≤ 1000000) :
    Calls Try.prog 62 #[v, .func (.func 63) #[] #[]] w fun e w' => e = .returned (.tuple #[]) ∧ (∃ vs', OwnLL lo hi w' v vs' (putAll ls)) ∧ Below lo w w' := by
  rcases h.shape with ⟨rfl, rfl⟩ | ⟨g, c, rfl, _, _, h1, h2, _⟩
  · exact (Go.Proofs.AnyF.slices_SortFunc_none sortLL none 0 _ w).mono fun e w' ⟨h1, h2⟩ => ⟨h1, by rw [h2]; exact ⟨vs, h⟩, by rw [h2]; exact Below.refl _ _⟩
  · obtain ⟨hBg, hgs⟩ : lo ≤ g ∧ g < w.heap.size := by
      rcases h.row.2 with ⟨hv, _⟩ | ⟨g', cap, cur, hv, hB, hg, _⟩
      · cases hv
      · simp only [Value.slice.injEq, Option.some.injEq, Addr.mk.injEq, and_true] at hv
        obtain ⟨rfl, _⟩ := hv
        exact ⟨hB, (Array.getElem?_eq_some_iff.1 hg).1⟩
    have eg : ∀ args w, (callFunc 63 args).run Try.prog w = .ok (.enter 63 args) w := enters_of Try.func63 (by kernel_rfl) rfl
    have hcon := Go.Proofs.Any.slices_SortFunc sortLE (rowV vs) (one_LL h) (cfLL ls) (swoLL ls) 63 #[] g 0 c (Array.range ls.length) w eg (Go.Proofs.CmpReads.lays (cmpReadsLL h hgs)) (holds_LL h) hgs (by rw [Array.size_range]; omega)
    rw [Array.size_range] at hcon
    refine hcon.mono fun e w' ⟨he, d', n, os, hp, hs, hw⟩ => ?_
    obtain ⟨hd, hperm, hall⟩ := sorted_put hp hs
    rw [hw, hall]
    exact ⟨he, ⟨_, ownLL_sortL h hgs hd hperm⟩, below_sortL hgs hBg⟩

end Go.Proofs.Ytogjclmmjdhfeac
