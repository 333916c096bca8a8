/- PutArch, the model's. -/
import Derived.Test.YtbinpefogecgmaaPutArch
namespace Go.Proofs.Ytbinpefogecgmaa
open Go.RowKit
set_option linter.unusedSimpArgs false
set_option linter.unusedVariables false

def placesR (i j : Nat) : Nat → List Int
  | 0 => []
  | k + 1 => if k ≠ i ∧ k ≠ j then placesR i j k ++ [(k : Int)] else placesR i j k
theorem placesR_eq (i j : Nat) : ∀ m, ((List.range m).filter fun k => decide (k ≠ i) && decide (k ≠ j)).map (fun (k : Nat) => (k : Int)) = placesR i j m
  | 0 => rfl
  | m + 1 => by
    rw [List.range_succ, List.filter_append, List.map_append, placesR_eq i j m, placesR]
    by_cases h1 : m = i
    · simp [h1]
    · by_cases h2 : m = j
      · simp [h2]
      · simp [h1, h2]
theorem placesR_len (i j : Nat) : ∀ m, (placesR i j m).length ≤ m
  | 0 => Nat.le_refl _
  | m + 1 => by have := placesR_len i j m; unfold placesR; split <;> simp <;> omega
theorem places_all {n i j : Nat} (hn : n ≤ 10) (hij : i < j) (hj : j < n + 2) : placesR i j (n + 2) = (List.range n).map fun (k : Nat) => widenTo (i : Int) (j : Int) (k : Int) := by
  have h := List.all_eq_true.1 placesCheck_all n (List.mem_range.2 (by omega))
  have h1 := List.all_eq_true.1 (List.all_eq_true.1 h j (List.mem_range.2 hj)) i (List.mem_range.2 hij)
  rw [← placesR_eq]
  exact eq_of_beq h1

set_option maxHeartbeats 4000000 in
theorem specPut_run (l : List Int) (i j : Nat) (R : Bool) (w : World) (u : Value) (h : Rd w u l) (hg : goodB l = true) (h10 : l.length ≤ 10) (hij : i < j) (hj : j < l.length + 2) (hR : noCrossB (putL l i j) = R) :
    Calls Try.prog 51 #[u, .int .i64 (i : Int), .int .i64 (j : Int)] w (Gives w (if R then putL l i j else []) R) := by
  have hgood := fun w h => ahGood_any u l w h (by omega)
  have hfin := fun v w h => ahGood_any v (putL l i j) w h (by rw [putL_length]; omega)
  have e := putL_good hg h10 hij hj
  rw [hR] at e
  simp only [hg] at hgood
  simp only [e] at hfin
  have hput : putS l i j l.length = putL l i j := putS_eq hg h10 hij hj l.length (Nat.le_refl _)
  have hfacts := (good_facts hg).2.2.1
  have hpa := places_all h10 hij hj
  have hnext : ∀ k, putS l i j (k + 1) = (putS l i j k).set ((placesR i j (l.length + 2)).getD k 0).toNat ((placesR i j (l.length + 2)).getD (l.getD k 0).toNat 0) := by
    intro k; rw [← placesR_eq]; rfl
  have hlenS : ∀ k, (putS l i j k).length = l.length + 2 := by
    intro k
    induction k with
    | zero => simp [putS]
    | succ k ih => rw [putS, List.length_set, ih]
  have hwin := fun k hk => widen_in hij hj k hk
  have h0 := h
  obtain ⟨a, c, rfl, hlc, hcm, hnc, hrd⟩ := h
  have hS0 : putS l i j 0 = ((List.replicate (l.length + 2) 0).set i (j : Int)).set j (i : Int) := rfl
  obtain ⟨n, hn⟩ : ∃ n, n = l.length := ⟨_, rfl⟩
  rw [← hn] at hlc h10 hj hrd h0 hgood hput hfacts hpa hnext hlenS hwin hS0 ⊢
  unfold maxLen at hcm
  have HN := Lib.hid hn; have HC := Lib.hid hrd; have H0 := Lib.hid h0; have HA := Lib.hid hgood; have HF := Lib.hid hfin; have HP := Lib.hid hput; have HX := Lib.hid hfacts; have HPA := Lib.hid hpa; have HNX := Lib.hid hnext; have HLS := Lib.hid hlenS; have HW := Lib.hid hwin; have HS0 := Lib.hid hS0
  obtain ⟨r, hr⟩ : ∃ r, r = if R then putL l i j else [] := ⟨_, rfl⟩
  rw [← hr]
  have HRR := Lib.hid hr
  clear hn hrd h0 hgood hfin hput hfacts hpa hnext hlenS hwin hS0 hg e hnc hR hr
  go_enter Try.func51, Try.ntmps51
  have hn12 : ((n : Int) == 12) = false := by simp; omega
  go_wp2_with (first
    | (go_at_call 92; refine (HA.out _ H0.out).mono ?_; rintro e w1 ⟨rfl, hb⟩)
    | (go_at_call 81; refine (l1In_any _ _ _ _).mono ?_; rintro e w' ⟨rfl, rfl⟩; rw [inB_yes (by omega) (by omega)]))
  clear HA H0 hn12
  go_loopw [8, 9] (fun o q wr => ∃ k : Nat, k ≤ n + 2 ∧ q = .int .i64 k ∧ Own w.heap.size wr o (placesR i j k) ∧ Below w.heap.size w wr) (fun _ q _ => n + 2 - (intOf q).toNat)
  case atStart => exact ⟨0, by omega, rfl, Own.nil _ _, hb⟩
  case round =>
    obtain ⟨k, hk, rfl, hown, hbel⟩ := hrel
    have hsz := hbel.size
    clear hb
    by_cases hlt : k < n + 2
    · have hlt2 : (k : Int) < (n : Int) + 2 := by omega
      by_cases h1 : k = i
      · subst h1
        have hnx : placesR k j (k + 1) = placesR k j k := by simp [placesR]
        rw [← hnx] at hown
        have h5 : ((k : Int) != (k : Int)) = false := by simp
        go_wp2
        go_roundw
        case rel => exact ⟨k + 1, by omega, by go_num, hown, hbel⟩
        case measure => simp [intOf]; omega
      · have h5 : ((k : Int) != (i : Int)) = true := by simp; omega
        by_cases h2 : k = j
        · subst h2
          have hnx : placesR i k (k + 1) = placesR i k k := by simp [placesR]
          rw [← hnx] at hown
          have h6 : ((k : Int) != (k : Int)) = false := by simp
          go_wp2
          go_roundw
          case rel => exact ⟨k + 1, by omega, by go_num, hown, hbel⟩
          case measure => simp [intOf]; omega
        · have h6 : ((k : Int) != (j : Int)) = true := by simp; omega
          have hnx : placesR i j (k + 1) = placesR i j k ++ [(k : Int)] := by rw [placesR, if_pos ⟨h1, h2⟩]
          have HK := Lib.hid hnx; have HLL := Lib.hid (placesR_len i j k); clear hnx
          go_wp2_with (at_builtin; refine wp_append _ rfl _ _ rfl w.heap.size _ _ (placesR i j k) [(k : Int)] rfl rfl (Own.below hown (Below.alloc1 _ _)) (Own.rd (Own.lit1 _ _ _ (Nat.le_refl _))) (by have := HLL.out; simp; omega) (by simp; omega) ?_; intro v' w2 hown2 hgr hbel2; rw [← HK.out] at hown2; have hbel3 := (hbel.alloc hsz _).trans hbel2; clear hgr hbel2)
          go_roundw
          case rel => exact ⟨k + 1, by omega, by go_num, hown2, hbel3⟩
          case measure => simp [intOf]; omega
    · obtain rfl : k = n + 2 := by omega
      generalize wr = wa at *
      have hlt2 : ¬ (((n + 2 : Nat) : Int) < (n : Int) + 2) := by omega
      rw [HPA.out] at hown
      have hpl : ((List.range n).map fun (k : Nat) => widenTo (i : Int) (j : Int) (k : Int)).length = n := by simp
      have hpg : ∀ k, k < n → ((List.range n).map fun (k : Nat) => widenTo (i : Int) (j : Int) (k : Int)).getD k 0 = widenTo (i : Int) (j : Int) (k : Int) := by intro k hk; simp [List.getD, hk]
      rw [HPA.out] at HNX
      generalize ((List.range n).map fun (k : Nat) => widenTo (i : Int) (j : Int) (k : Int)) = P at hown hpl hpg HNX
      have HPL := Lib.hid hpl; have HPG := Lib.hid hpg; clear hpl hpg HPA
      go_wp2_with (at_make; refine wp_make _ rfl _ _ rfl (n + 2) _ _ rfl rfl (by omega) (by omega) (by omega) ?_; intro w2 hown2 hbel2 hsz2; have c1 := hown2.cellAt i (by simp; omega); have f1 := hown2.frozenAt i; have hst1 := hown2.stored i (j : Int); have c2 := hst1.cellAt j (by simp; omega); have f2 := hst1.frozenAt j; have hst2 := hst1.stored j (i : Int); rw [← HS0.out] at hst2; have hownp := (Own.below hown hbel2); have hinp := hown.inn; have hbs := ((Below.step hbel hbel2).setCell (p := ⟨wa.heap.size, i, none⟩) hsz (.int .i64 (j : Int))).setCell (p := ⟨wa.heap.size, j, none⟩) hsz (.int .i64 (i : Int)); have hownq := (hownp.grown (grown_trans grown_setCell grown_setCell) (w' := (w2.setCell ⟨wa.heap.size, i, none⟩ (.int .i64 (j : Int))).setCell ⟨wa.heap.size, j, none⟩ (.int .i64 (i : Int))) (row := some wa.heap.size) (fun k hk e => by have := (hinp k hk).2; simp at e; omega)))
      have HST := Lib.hid hst2; have HOW := Lib.hid hownq; have HBS := Lib.hid hbs
      clear hst2 hownq hbs c1 f1 hst1 c2 f2 hown hown2 hownp hbel2 hbel
      go_loopw [69] (fun q wr => ∃ k : Nat, k ≤ n ∧ q = .int .i64 k ∧ Own wa.heap.size wr (.slice (some ⟨wa.heap.size, 0, none⟩) (n + 2) (n + 2)) (putS l i j k) ∧ Own w.heap.size wr u8 P ∧ Below w.heap.size w wr) (fun q _ => n - (intOf q).toNat)
      case atStart => exact ⟨0, by omega, rfl, HST.out, HOW.out, HBS.out⟩
      case round =>
        obtain ⟨k, hk, rfl, howno, hownp, hbq⟩ := hrel
        clear HST HOW HBS
        by_cases hlt : k < n
        · rcases HC.out with h0 | ⟨bb, off, rfl, hcell⟩
          · exfalso; rw [HN.out, h0] at hlt; simp at hlt
          have hsrc : wr.cell? ⟨bb, off + k, none⟩ = some (.int .i64 (l.getD k 0)) := by
            have := hcell k hlt
            exact (hbq.cell (p := ⟨bb, off + k, none⟩) (World.block_lt_of_cell? w _ this)).trans this
          clear hcell
          rcases hownp.shape with ⟨rfl, hP⟩ | ⟨gp, cp, rfl, hBg, hgw, hPc, hcmp⟩
          · exfalso; have := HPL.out; rw [hP] at this; simp at this; omega
          have hx := HX.out k hlt
          obtain ⟨x, hxe⟩ := Int.eq_ofNat_of_zero_le hx.1
          have hxn : x < n := by omega
          have hp1 := HW.out k hlt
          have hq1 := HW.out x hxn
          have hnx := HNX.out k
          rw [hxe, Int.toNat_natCast, HPG.out k hlt, HPG.out x hxn] at hnx
          have cp1 := hownp.cellAt k (by rw [HPL.out]; exact hlt)
          have cp2 := hownp.cellAt x (by rw [HPL.out]; exact hxn)
          rw [HPG.out k hlt] at cp1
          rw [HPG.out x hxn] at cp2
          rw [hxe] at hsrc
          obtain ⟨p, hpe⟩ := Int.eq_ofNat_of_zero_le hp1.1
          obtain ⟨q, hqe⟩ := Int.eq_ofNat_of_zero_le hq1.1
          rw [hpe] at cp1 hnx hp1
          rw [hqe] at cp2 hnx hq1
          rw [Int.toNat_natCast] at hnx
          have hpn : p < n + 2 := by omega
          rw [HPL.out] at hPc
          have co := howno.cellAt p (by rw [HLS.out]; exact hpn)
          have fo := howno.frozenAt p
          have hnew := howno.stored p (q : Int)
          rw [← hnx] at hnew
          have hnewp := hownp.grown (w' := wr.setCell ⟨wa.heap.size, p, none⟩ (.int .i64 (q : Int))) grown_setCell (fun k hk e => by have := (hinp k hk).2; simp at e; omega)
          have hnewb := hbq.setCell (p := ⟨wa.heap.size, p, none⟩) hsz (.int .i64 (q : Int))
          have HNO := Lib.hid hnew; have HNP := Lib.hid hnewp; have HNB := Lib.hid hnewb
          rw [HPL.out]
          clear hnew hnewp hnewb howno hownp hbq hnx hx hp1 hq1 hpe hqe hxe hBg
          rw [HPL.out] at HNP
          go_wp2
          go_region
          go_wp2
          go_roundw
          case rel => exact ⟨k + 1, by omega, by go_num, HNO.out, HNP.out, Below.drew HNB.out⟩
          case measure => simp [intOf]; omega
        · obtain rfl : k = n := by omega
          rw [HP.out] at howno
          cases R
          all_goals
            go_wp2_with (go_at_call 92; refine (HF.out _ _ (Own.rd howno)).mono ?_; rintro e w5 ⟨rfl, hb5⟩)
            go_ret2
            rw [HRR.out]
          · exact ⟨_, rfl, Own.nil _ _, Below.step hbq hb5⟩
          · exact ⟨_, rfl, (Own.below howno hb5).mono hsz, Below.step hbq hb5⟩

set_option maxHeartbeats 1000000 in
theorem specPut_no (l : List Int) (i j : Int) (w : World) (u : Value) (h : Rd w u l) (m : l.length ≤ 1048576) (hg : goodB l = true) (hc : 10 < l.length ∨ i < 0 ∨ j ≤ i ∨ (l.length : Int) + 2 ≤ j) :
    Calls Try.prog 51 #[u, .int .i64 i, .int .i64 j] w (Gives w [] false) := by
  have hgood := fun w h => ahGood_any u l w h m
  have hl := good_len' hg
  have hev := (good_facts hg).1
  simp only [hg] at hgood
  have h0 := h
  obtain ⟨a, c, rfl, hlc, hcm, hnc, hrd⟩ := h
  obtain ⟨n, hn⟩ : ∃ n, n = l.length := ⟨_, rfl⟩
  rw [← hn] at hlc h0 hgood hc hl hev ⊢
  unfold maxLen at hcm
  have H0 := Lib.hid h0; have HA := Lib.hid hgood
  clear hn hrd h0 hgood hnc hg m
  by_cases h1 : 10 < n
  · have h2 : n = 12 := by omega
    subst h2
    clear hev
    go_enter Try.func51, Try.ntmps51
    go_wp2_with (go_at_call 92; refine (HA.out _ H0.out).mono ?_; rintro e w1 ⟨rfl, hb⟩)
    go_ret2
    exact ⟨_, rfl, Own.nil _ _, hb⟩
  · have hn12 : ((n : Int) == 12) = false := by simp; omega
    have hn12' : ¬ (n : Int) = 12 := by omega
    clear hev
    by_cases h2 : 1 ≤ j ∧ j ≤ (n : Int) + 1
    · have h3 : ¬ (0 ≤ i ∧ i ≤ j - 1) := by omega
      obtain ⟨h2a, h2b⟩ := h2
      clear hc
      go_enter Try.func51, Try.ntmps51
      go_wp2_with (first | (go_at_call 92; refine (HA.out _ H0.out).mono ?_; rintro e w1 ⟨rfl, hb⟩) | (go_at_call 81; refine (l1In_any _ _ _ _).mono ?_; rintro e w' ⟨rfl, rfl⟩; first | rw [inB_yes (by omega) (by omega)] | rw [inB_no (by omega)]))
      go_ret2
      exact ⟨_, rfl, Own.nil _ _, hb⟩
    · clear hc
      go_enter Try.func51, Try.ntmps51
      go_wp2_with (first | (go_at_call 92; refine (HA.out _ H0.out).mono ?_; rintro e w1 ⟨rfl, hb⟩) | (go_at_call 81; refine (l1In_any _ _ _ _).mono ?_; rintro e w' ⟨rfl, rfl⟩; first | rw [inB_yes (by omega) (by omega)] | rw [inB_no (by omega)]))
      go_ret2
      exact ⟨_, rfl, Own.nil _ _, hb⟩

theorem spec_PutArch (l : List Int) (i j : Int) (w : World) (u : Value) (h : Rd w u l) (m : l.length ≤ 1048576) : Calls Try.prog 51 #[u, .int .i64 i, .int .i64 j] w (Gives w (res_PutArch l i j) (ok_PutArch l i j)) := by
  cases hg : goodB l with
  | false =>
    have e1 : ok_PutArch l i j = false := by simp [ok_PutArch, hg]
    have e2 : res_PutArch l i j = [] := by simp [res_PutArch, e1]
    rw [e1, e2]
    have hgood := fun w h => ahGood_any u l w h m
    simp only [hg] at hgood
    have HA := Lib.hid hgood; have H0 := Lib.hid h
    clear hg e1 e2 hgood h
    go_enter Try.func51, Try.ntmps51
    go_wp2_with (go_at_call 92; refine (HA.out _ H0.out).mono ?_; rintro e w1 ⟨rfl, hb⟩)
    go_ret2
    exact ⟨_, rfl, Own.nil _ _, hb⟩
  | true =>
    by_cases hc : 10 < l.length ∨ i < 0 ∨ j ≤ i ∨ (l.length : Int) + 2 ≤ j
    · have e1 : ok_PutArch l i j = false := by
        simp only [ok_PutArch, Bool.and_eq_false_iff, decide_eq_false_iff_not]
        rcases hc with hc | hc
        · exact .inl (.inl (.inr (by omega)))
        · exact .inl (.inr (by omega))
      have e2 : res_PutArch l i j = [] := by simp [res_PutArch, e1]
      rw [e1, e2]
      exact specPut_no l i j w u h m hg hc
    · obtain ⟨i, rfl⟩ := Int.eq_ofNat_of_zero_le (show 0 ≤ i by omega)
      obtain ⟨j, rfl⟩ := Int.eq_ofNat_of_zero_le (show 0 ≤ j by omega)
      have e1 : ok_PutArch l i j = noCrossB (putL l i j) := by
        unfold ok_PutArch
        rw [hg, Int.toNat_natCast, Int.toNat_natCast, decide_eq_true (show l.length ≤ 10 by omega), decide_eq_true (show 0 ≤ (i : Int) ∧ (i : Int) < j ∧ (j : Int) < (l.length : Int) + 2 by omega)]
        simp
      have e2 : res_PutArch l i j = if noCrossB (putL l i j) then putL l i j else [] := by rw [res_PutArch, e1]; rfl
      rw [e1, e2]
      exact specPut_run l i j _ w u h hg (by omega) (by omega) (by omega) rfl

end Go.Proofs.Ytbinpefogecgmaa
