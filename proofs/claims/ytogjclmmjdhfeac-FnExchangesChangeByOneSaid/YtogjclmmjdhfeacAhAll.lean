/- The model's list of all systems. -/
import Derived.Test.YtogjclmmjdhfeacFillM
import Derived.Test.YtogjclmmjdhfeacListsLaw
import Derived.Test.YtogjclmmjdhfeacNum
import Derived.OwnWalk
namespace Go.Proofs.Ytogjclmmjdhfeac
open Go.RowKit
set_option linter.unusedSimpArgs false
set_option linter.unusedVariables false

/-! plain facts of the list -/
def cntL : Nat → Nat → Nat
  | 0, _ => 1
  | f + 1, n => if n = 0 then 1 else ((List.range n).map fun k => cntL f k * cntL f (n - 1 - k)).sum
theorem ahL_cnt : ∀ (f n a : Nat), (ahL f n a).length = cntL f n
  | 0, n, a => rfl
  | f + 1, n, a => by
    rw [ahL, cntL]
    split
    · rfl
    · rw [List.length_flatMap]
      congr 1
      refine List.map_congr_left fun k hk => ?_
      rw [List.length_flatMap]
      simp only [List.length_map, ahL_cnt f]
      rw [List.map_const', List.sum_replicate_nat, ahL_cnt f]
theorem cntL_bd : (List.range 8).all (fun f => (List.range 7).all fun n => decide (cntL f n ≤ 1000)) = true := by kernel_rfl
theorem ahL_short {f n a : Nat} (hf : f ≤ 7) (hn : n ≤ 6) : (ahL f n a).length ≤ 1000 := by
  rw [ahL_cnt]
  have := List.all_eq_true.1 (List.all_eq_true.1 cntL_bd f (List.mem_range.2 (by omega))) n (List.mem_range.2 (by omega))
  simpa using this
theorem ahL_rows : ∀ (f n a : Nat), ∀ u ∈ ahL f n a, u.length ≤ 2 * n
  | 0, n, a, u, hu => by simp [ahL] at hu; subst hu; simp
  | f + 1, n, a, u, hu => by
    rw [ahL] at hu
    split at hu
    · simp at hu; subst hu; simp
    · simp only [List.mem_flatMap, List.mem_map, List.mem_range] at hu
      obtain ⟨k, hk, x, hx, y, hy, rfl⟩ := hu
      have h1 := ahL_rows f k (a + 1) x hx
      have h2 := ahL_rows f (n - 1 - k) (a + 2 * k + 2) y hy
      simp [ahRow]; omega
theorem row_len {f n a j : Nat} (hj : j < (ahL f n a).length) : ((ahL f n a).getD j []).length ≤ 2 * n := by
  refine ahL_rows f n a _ ?_
  simp [List.getD, hj]

def blkL (f n a k : Nat) : List (List Int) := (ahL f k (a + 1)).flatMap fun u => (ahL f (n - 1 - k) (a + 2 * k + 2)).map fun v => ahRow n a k u v
def outK (f n a k : Nat) : List (List Int) := (List.range k).flatMap (blkL f n a)
def outJ (O U V : List (List Int)) (n a k j : Nat) : List (List Int) := O ++ (U.take j).flatMap fun u => V.map fun v => ahRow n a k u v
def outT (O V : List (List Int)) (u : List Int) (n a k t : Nat) : List (List Int) := O ++ (V.take t).map fun v => ahRow n a k u v
theorem outK_all (f n a : Nat) (hn : n ≠ 0) : outK f n a n = ahL (f + 1) n a := by rw [ahL, if_neg hn]; rfl
theorem outK_succ (f n a k : Nat) : outK f n a (k + 1) = outJ (outK f n a k) (ahL f k (a + 1)) (ahL f (n - 1 - k) (a + 2 * k + 2)) n a k (ahL f k (a + 1)).length := by
  rw [outK, List.range_succ, List.flatMap_append, outJ, List.take_length]
  simp [outK, blkL]
theorem outJ_zero (O U V : List (List Int)) (n a k : Nat) : outJ O U V n a k 0 = O := by simp [outJ]
theorem outJ_succ (O U V : List (List Int)) (n a k j : Nat) (hj : j < U.length) : outJ O U V n a k (j + 1) = outT (outJ O U V n a k j) V (U.getD j []) n a k V.length := by
  rw [outJ, List.take_succ_eq_append_getElem hj, List.flatMap_append, outT, List.take_length, outJ]
  simp [List.getD, hj]
theorem outT_zero (O V : List (List Int)) (u : List Int) (n a k : Nat) : outT O V u n a k 0 = O := by simp [outT]
theorem outT_succ (O V : List (List Int)) (u : List Int) (n a k t : Nat) (ht : t < V.length) : outT O V u n a k (t + 1) = outT O V u n a k t ++ [ahRow n a k u (V.getD t [])] := by
  rw [outT, List.take_succ_eq_append_getElem ht, List.map_append, outT]
  simp [List.getD, ht]
theorem prefix_len {A B C : List (List Int)} (h : A ++ B = C) : A.length ≤ C.length := by rw [← h, List.length_append]; omega
theorem range_split {k n : Nat} (h : k ≤ n) : List.range n = List.range k ++ List.range' k (n - k) := by
  rw [List.range_eq_range', List.range_eq_range']
  have h1 := List.range'_append (s := 0) (m := k) (n := n - k) (step := 1)
  simp only [Nat.zero_add, Nat.one_mul] at h1
  rw [h1]; congr 1; omega
theorem outK_len {f n a k : Nat} (hk : k ≤ n) (hf : f ≤ 6) (hn : n ≤ 6) (hn0 : n ≠ 0) : (outK f n a k).length ≤ 1000 := by
  refine Nat.le_trans ?_ (ahL_short (f := f + 1) (n := n) (a := a) (by omega) hn)
  rw [← outK_all f n a hn0, outK, outK, List.length_flatMap, List.length_flatMap, range_split hk]
  rw [List.map_append, List.sum_append_nat]; omega
theorem outJ_len {O U V : List (List Int)} {n a k j : Nat} (hO : O.length ≤ 1000) (hU : U.length ≤ 1000) (hV : V.length ≤ 1000) : (outJ O U V n a k j).length ≤ 1001000 := by
  rw [outJ, List.length_append, List.length_flatMap]
  simp only [List.length_map]
  rw [List.map_const', List.sum_replicate_nat, List.length_take]
  have : min j U.length * V.length ≤ 1000 * 1000 := Nat.mul_le_mul (by omega) hV
  omega
theorem outT_len {O V : List (List Int)} {u : List Int} {n a k t : Nat} (hO : O.length ≤ 1001000) (hV : V.length ≤ 1000) : (outT O V u n a k t).length ≤ 1002000 := by
  rw [outT, List.length_append, List.length_map, List.length_take]; omega

set_option maxHeartbeats 4000000 in
theorem ahAll_any : ∀ (f n a : Nat) (w : World), n ≤ f → f ≤ 7 → n ≤ 6 → a + 2 * n ≤ 12 → Calls Try.prog 47 #[.int .i64 (n : Int), .int .i64 (a : Int)] w (MadeLL w (ahL f n a)) := by
  intro f
  induction f with
  | zero =>
    intro n a w hn _ _ _
    obtain rfl : n = 0 := by omega
    have hl := OwnLL.lit1 w.heap.size w (.slice none 0 0) [] (Own.nil _ _) (Nat.le_refl _)
    have HL := Lib.hid hl; clear hl
    go_enter Try.func47, Try.ntmps47
    go_wp2_with fail
    go_ret
    exact ⟨_, _, rfl, HL.out.mono (Nat.le_refl _) (by simp) (Nat.le_refl _), Below.alloc1 _ _⟩
  | succ f ih =>
    intro n a w hn hf hn6 ha
    by_cases h0 : n = 0
    · subst h0
      have hl := OwnLL.lit1 w.heap.size w (.slice none 0 0) [] (Own.nil _ _) (Nat.le_refl _)
      have HL := Lib.hid hl; clear hl
      go_enter Try.func47, Try.ntmps47
      go_wp2_with fail
      go_ret
      exact ⟨_, _, rfl, by rw [ahL, if_pos rfl]; exact HL.out.mono (Nat.le_refl _) (by simp) (Nat.le_refl _), Below.alloc1 _ _⟩
    · have hn0 : ((n : Int) == 0) = false := by simp; omega
      have HOL : Hid (∀ k, k ≤ n → (outK f n a k).length ≤ 1000) := fun k hk => outK_len hk (by omega) hn6 h0
      have HALL := Lib.hid (outK_all f n a h0)
      have HSUC := Lib.hid (outK_succ f n a)
      have HIH := Lib.hid ih; clear ih h0
      go_enter Try.func47, Try.ntmps47
      go_wp2_with fail
      go_loopw [5, 6] (fun o i wr => ∃ (k : Nat) (vs : List Value), k ≤ n ∧ i = .int .i64 (k : Int) ∧ OwnLL w.heap.size wr.heap.size wr o vs (outK f n a k) ∧ Below w.heap.size w wr) (fun _ i _ => n - (intOf i).toNat)
      case atStart => exact ⟨0, [], by omega, rfl, OwnLL.nil _ _ (Nat.le_refl _), Below.refl _ _⟩
      case round =>
        obtain ⟨k, vs, hk, rfl, hown, hbel⟩ := hrel
        generalize wr = wa at *
        by_cases hlt : k < n
        · have HE1 : Hid ((a : Int) + 1 = ((a + 1 : Nat) : Int)) := by show (a : Int) + 1 = ((a + 1 : Nat) : Int); omega
          have HE2 : Hid ((n : Int) - 1 - (k : Int) = ((n - 1 - k : Nat) : Int)) := by show (n : Int) - 1 - (k : Int) = ((n - 1 - k : Nat) : Int); omega
          have HE3 : Hid ((a : Int) + 2 * (k : Int) + 2 = ((a + 2 * k + 2 : Nat) : Int)) := by show (a : Int) + 2 * (k : Int) + 2 = ((a + 2 * k + 2 : Nat) : Int); omega
          have hUl := ahL_short (f := f) (n := k) (a := a + 1) (by omega) (by omega)
          have hVl := ahL_short (f := f) (n := n - 1 - k) (a := a + 2 * k + 2) (by omega) (by omega)
          have hUr := fun j (hj : j < (ahL f k (a + 1)).length) => row_len hj
          have hVr := fun j (hj : j < (ahL f (n - 1 - k) (a + 2 * k + 2)).length) => row_len hj
          have hcu := fun w => HIH.out k (a + 1) w (by omega) (by omega) (by omega) (by omega)
          have hcv := fun w => HIH.out (n - 1 - k) (a + 2 * k + 2) w (by omega) (by omega) (by omega) (by omega)
          have hsuc := HSUC.out k
          have hol := HOL.out k (by omega)
          generalize ahL f k (a + 1) = U at hUl hUr hcu hsuc
          generalize ahL f (n - 1 - k) (a + 2 * k + 2) = V at hVl hVr hcv hsuc
          generalize outK f n a k = O at hown hsuc hol
          have HCU := Lib.hid hcu; have HCV := Lib.hid hcv; have HS2 := Lib.hid hsuc; have HOL2 := Lib.hid hol; have HUL := Lib.hid hUl; have HVL := Lib.hid hVl; have HUR := Lib.hid hUr; have HVR := Lib.hid hVr
          have hwa := hbel.size
          clear hcu hcv hsuc hol hUl hVl hUr hVr
          go_wp2_with (go_at_call 47; rw [HE1.out]; ((with_reducible refine (HCU.out _).mono ?_); rintro e w1 ⟨vu, us, rfl, hU, hb1⟩; obtain ⟨au, cu, rfl, hcu1, hcu2⟩ := hU.form; unfold maxLen at hcu2))
          have hown1 := hown.below hb1
          have haw : Away u5 wa.heap.size w1.heap.size := hown.away (Nat.le_refl _)
          have hbel1 := Below.step hbel hb1
          have hw1 := hb1.size
          clear hown hb1
          generalize u5 = o5 at *
          go_loopw [5, 25] (fun o i wr => ∃ (j : Nat) (vs : List Value), j ≤ U.length ∧ i = .int .i64 (j : Int) ∧ OwnLL w.heap.size wr.heap.size wr o vs (outJ O U V n a k j) ∧ OwnLL wa.heap.size w1.heap.size wr (.slice au U.length cu) us U ∧ Away o wa.heap.size w1.heap.size ∧ w1.heap.size ≤ wr.heap.size ∧ Below w.heap.size w wr) (fun _ i _ => U.length - (intOf i).toNat)
          case atStart => exact ⟨0, vs, by omega, rfl, by rw [outJ_zero]; exact hown1.mono (Nat.le_refl _) hw1 (Nat.le_refl _), hU, haw, Nat.le_refl _, hbel1⟩
          case round =>
            obtain ⟨j, vs2, hj, rfl, hownj, hUj, hawj, hwj, hbelj⟩ := hrel
            clear hown1 haw hbel1 hU
            generalize wr = wb at *
            by_cases hjt : j < U.length
            · obtain ⟨gu, rfl, hgu0, hgu1, hcellu, _⟩ := hUj.at (by omega)
              have hcu3 := hcellu j hjt
              have HJS := Lib.hid (outJ_succ O U V n a k j hjt)
              have HOJ : Hid ((outJ O U V n a k j).length ≤ 1001000) := outJ_len HOL2.out HUL.out HVL.out
              have hru := hUj.own j hjt
              have hur := HUR.out j hjt
              generalize outJ O U V n a k j = O2 at hownj HJS HOJ
              generalize rowV us j = pu at hcu3 hru
              generalize U.getD j [] = u at HJS hru hur
              have HUR2 := Lib.hid hur
              clear hcellu hur
              go_wp2_with (go_at_call 47; rw [HE2.out, HE3.out]; ((with_reducible refine (HCV.out _).mono ?_); rintro e w2 ⟨vv, vvs, rfl, hV, hb2⟩; obtain ⟨av, cv, rfl, hcv1, hcv2⟩ := hV.form; unfold maxLen at hcv2))
              have hownj2 := (hownj.below hb2).mono (Nat.le_refl _) hb2.size (Nat.le_refl _)
              have hU2 := hUj.below hb2
              have hpu2 := hru.below hb2
              have haw2 : Away u5 wb.heap.size w2.heap.size := hownj.away (Nat.le_refl _)
              have hbel2 := Below.step hbelj hb2
              have hw2 := hb2.size
              clear hownj hUj hru hbelj hb2
              generalize u5 = o6 at *
              go_loopw [5, 40] (fun o i wr => ∃ (t : Nat) (vs : List Value), t ≤ V.length ∧ i = .int .i64 (t : Int) ∧ OwnLL w.heap.size wr.heap.size wr o vs (outT O2 V u n a k t) ∧ OwnLL wa.heap.size w1.heap.size wr (.slice (some ⟨gu, 0, none⟩) U.length cu) us U ∧ OwnLL wb.heap.size w2.heap.size wr (.slice av V.length cv) vvs V ∧ Own wa.heap.size wr pu u ∧ Away o wa.heap.size w1.heap.size ∧ Away o wb.heap.size w2.heap.size ∧ w2.heap.size ≤ wr.heap.size ∧ Below w.heap.size w wr) (fun _ i _ => V.length - (intOf i).toNat)
              case atStart => exact ⟨0, vs2, by omega, rfl, by rw [outT_zero]; exact hownj2, hU2, hV, hpu2, hawj, haw2, Nat.le_refl _, hbel2⟩
              case round =>
                obtain ⟨t, vs3, ht, rfl, hownt, hUt, hVt, hput, hat1, hat2, hwt, hbelt⟩ := hrel
                clear hownj2 hU2 hV hpu2 hawj haw2 hbel2
                generalize wr = wc at *
                by_cases htt : t < V.length
                · obtain ⟨gv, rfl, hgv0, hgv1, hcellv, _⟩ := hVt.at (by omega)
                  have hcv3 := hcellv t htt
                  have HTS := Lib.hid (outT_succ O2 V u n a k t htt)
                  have HOT : Hid ((outT O2 V u n a k t).length ≤ 1002000) := outT_len HOJ.out HVL.out
                  have hpv := hVt.own t htt
                  have hvr := HVR.out t htt
                  generalize outT O2 V u n a k t = O3 at hownt HTS HOT
                  generalize rowV vvs t = pv at hcv3 hpv
                  generalize V.getD t [] = v at HTS hpv hvr
                  have HVR2 := Lib.hid hvr
                  have hsc := hbelt.size
                  have HOW := Lib.hid hownt; have HU := Lib.hid hUt; have HV := Lib.hid hVt; have HPU := Lib.hid hput; have HPV := Lib.hid hpv; have HA1 := Lib.hid hat1; have HA2 := Lib.hid hat2; have HB := Lib.hid hbelt
                  clear hcellv hvr hownt hUt hVt hput hpv hat1 hat2 hbelt
                  go_wp2_with (first
                    | (at_builtin; refine wp_append _ rfl (.tmp 49) (.tmp 50) rfl wc.heap.size _ pu [(a : Int) + 2 * (k : Int) + 1] u rfl rfl (Own.lit1 _ _ _ (Nat.le_refl _)) ((Own.below HPU.out (Below.alloc1 _ _)).rd) (by have := HUR2.out; simp; omega) (by simp) ?_; intro v1 w3 hp1 hg1 hbb1; have B3 := Lib.hid ((Below.alloc1 wc (.cells #[.int .i64 ((a : Int) + 2 * (k : Int) + 1)] 3)).trans hbb1); clear hg1 hbb1; have HP1 := Lib.hid hp1; clear hp1)
                    | (at_builtin; refine wp_append _ rfl (.tmp 52) (.tmp 54) rfl wc.heap.size _ _ ([(a : Int) + 2 * (k : Int) + 1] ++ u) [(a : Int)] rfl rfl (Own.below HP1.out (Below.alloc1 _ _)) (Own.rd (Own.lit1 _ _ _ (Nat.le_refl _))) (by have := HUR2.out; simp; omega) (by have := B3.out.size; simp; omega) ?_; intro v2 w4 hp2 hg2 hbb2; have B4 := Lib.hid ((B3.out.alloc B3.out.size (.cells #[.int .i64 (a : Int)] 3)).trans hbb2); clear hg2 hbb2; have HP2 := Lib.hid hp2; clear hp2)
                    | (at_builtin; refine wp_append _ rfl (.tmp 55) (.tmp 56) rfl wc.heap.size _ pv ([(a : Int) + 2 * (k : Int) + 1] ++ u ++ [(a : Int)]) v rfl rfl HP2.out (Own.rd (Own.below HPV.out B4.out)) (by have := HUR2.out; have := HVR2.out; simp; omega) B4.out.size ?_; intro v3 w5 hp3 hg3 hbb3; obtain ⟨a3, n3, c3, rfl⟩ := hp3.form'; have B5 := Lib.hid (B4.out.trans hbb3); clear hg3 hbb3; have HP3 := Lib.hid hp3; clear hp3)
                    | (at_builtin; refine wp_appendLL _ rfl (.tmp 58) (.tmp 60) rfl w.heap.size wc.heap.size wc.heap.size w5.heap.size _ (.slice a3 n3 c3) _ O3 ([(a : Int) + 2 * (k : Int) + 1] ++ u ++ [(a : Int)] ++ v) rfl rfl (cell_lit1 w5 (.slice a3 n3 c3) _) (OwnLL.below HOW.out (B5.out.alloc B5.out.size _)) (Own.below HP3.out (Below.alloc1 _ _)) (Nat.le_refl _) hsc (by have := HOT.out; omega) (by have := B5.out.size; simp; omega) ?_; intro o' w6 hown6 hgr6 hbel6 hwh6; have hkeep := LL_round HOW.out (B5.out.alloc B5.out.size _) hgr6 hwh6; have HKP := Lib.hid hkeep; have HO6 := Lib.hid hown6; have HB6 := Lib.hid ((HB.out.trans ((B5.out.alloc B5.out.size (.cells #[.slice a3 n3 c3] 24)).mono hsc)).trans hbel6); clear hkeep hown6 hgr6 hbel6 hwh6))
                  have hrow : ([(a : Int) + 2 * (k : Int) + 1] ++ u ++ [(a : Int)] ++ v) = ahRow n a k u v := by simp [ahRow]
                  have HRW := Lib.hid hrow; clear hrow
                  go_roundw
                  case rel => exact ⟨t + 1, _, by omega, by go_num, by rw [HTS.out, ← HRW.out]; exact HO6.out, HKP.out.1 _ _ _ _ _ HU.out HA1.out, HKP.out.1 _ _ _ _ _ HV.out HA2.out, HKP.out.2.2.1 _ _ _ HPU.out, HKP.out.2.1 _ _ HA1.out (by omega), HKP.out.2.1 _ _ HA2.out hwt, Nat.le_trans hwt HKP.out.2.2.2, HB6.out⟩
                  case measure => simp [intOf]; omega
                · obtain rfl : t = V.length := by omega
                  go_wp2
                  go_roundw
                  case rel => exact ⟨j + 1, vs3, by omega, by go_num, by rw [HJS.out]; exact hownt, hUt, hat1, by omega, hbelt⟩
                  case measure => simp [intOf]; omega
            · obtain rfl : j = U.length := by omega
              go_wp2
              go_roundw
              case rel => exact ⟨k + 1, vs2, by omega, by go_num, by rw [HS2.out]; exact hownj, hbelj⟩
              case measure => simp [intOf]; omega
        · obtain rfl : k = n := by omega
          go_wp2
          go_ret
          exact ⟨_, _, rfl, by rw [← HALL.out]; exact hown, hbel⟩

end Go.Proofs.Ytogjclmmjdhfeac
