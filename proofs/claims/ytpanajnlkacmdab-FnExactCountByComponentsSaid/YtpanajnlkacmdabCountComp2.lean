/- CountByComponents: the program's function and the model's. -/
import Derived.Test.YtpanajnlkacmdabCountComp
namespace Go.Proofs.Ytpanajnlkacmdab
open Go.RowKit
set_option linter.unusedSimpArgs false
set_option linter.unusedVariables false

set_option maxRecDepth 100000 in
set_option maxHeartbeats 4000000 in
theorem impl_CountByComponents (x : Int) (w : World) : Calls Try.prog 30 #[.int .i64 x] w (Gives w (res_CountByComponents x) (ok_CountByComponents x)) := by
  by_cases h : 0 ≤ x ∧ x ≤ 4
  · obtain ⟨n, rfl⟩ := Int.eq_ofNat_of_zero_le h.1
    have hn : n ≤ 4 := by omega
    have hb := inB_yes h.1 h.2
    have e1 : ok_CountByComponents (n : Int) = true := hb
    have e2 : res_CountByComponents (n : Int) = cntP (List.replicate (n + 1) 0) ((pairsN n).take (pairsN n).length) := by unfold res_CountByComponents; rw [hb, if_pos rfl, Int.toNat_natCast, List.take_length]
    rw [e1, e2]
    have hpo := fun w => pairsOf_any n hn w
    have hpl := pairsN_len hn
    have hck : ∀ k, k < (pairsN n).length → ∀ w, Calls Try.prog 52 #[.agg (pairC ((pairsN n).getD k ([], [])).1 ((pairsN n).getD k ([], [])).2)] w fun e w' => e = .returned (.int .i64 ((compsL ((pairsN n).getD k ([], [])).1 ((pairsN n).getD k ([], [])).2 : Nat) : Int)) ∧ Below w.heap.size w w' := by
      intro k hk w
      have hm := pairsN_mem (pairsN_at hk)
      have g1 := mem_good (by omega) hm.1
      have g2 := mem_good (by omega) hm.2
      exact components_any _ _ g1.1 g2.1 (by rw [g1.2, g2.2]) w
    have hcl : ∀ k, k < (pairsN n).length → compsL ((pairsN n).getD k ([], [])).1 ((pairsN n).getD k ([], [])).2 ≤ n := fun k hk => comps_le hn (pairsN_mem (pairsN_at hk)).1 (pairsN_mem (pairsN_at hk)).2
    have htk : ∀ k, k < (pairsN n).length → cntP (List.replicate (n + 1) 0) ((pairsN n).take (k + 1)) = incL (cntP (List.replicate (n + 1) 0) ((pairsN n).take k)) ((pairsN n).getD k ([], [])) := by
      intro k hk
      rw [List.take_add_one, List.getElem?_eq_getElem hk, Option.toList_some, cntP_snoc]
      simp [List.getD, hk]
    generalize pairsN n = PS at *
    have HPO := Lib.hid hpo; have HCK := Lib.hid hck; have HCL := Lib.hid hcl; have HTK := Lib.hid htk
    have HBD : Hid (∀ k j, 0 ≤ (cntP (List.replicate (n + 1) 0) (PS.take k)).getD j 0 ∧ (cntP (List.replicate (n + 1) 0) (PS.take k)).getD j 0 ≤ 196) := by
      intro k j
      have := cnt_bd (n + 1) (PS.take k) j
      rw [List.length_take] at this
      omega
    have HLN : Hid (∀ k, (cntP (List.replicate (n + 1) 0) (PS.take k)).length = n + 1) := fun k => by rw [cntP_len, List.length_replicate]
    have HZ : Hid (cntP (List.replicate (n + 1) 0) (PS.take 0) = List.replicate (n + 1) 0) := rfl
    have HB := Lib.hid hb
    clear hpo hck hcl htk hb h e1 e2
    go_enter Try.func30, Try.ntmps30
    go_wp2_with (first
      | (go_at_call 55; refine (isListedCount_any _ _).mono ?_; rintro e w' ⟨rfl, rfl⟩; rw [HB.out])
      | (at_make; refine wp_make _ rfl _ _ rfl (n + 1) _ _ rfl rfl (by omega) (by omega) (by omega) ?_; intro w1 hown1 hbel1 hsz1; have HO1 := Lib.hid hown1; have HB1 := Lib.hid hbel1; clear hown1 hbel1)
      | (go_at_call 56; ((with_reducible refine (HPO.out _).mono ?_); rintro e w2 ⟨pv, rfl, hop, hb2⟩; obtain ⟨pa, pc, rfl, hp1, hp2⟩ := hop.form; unfold maxLen at hp2; have HOP := Lib.hid hop; have HO2 := Lib.hid (HO1.out.below hb2); have HB2 := Lib.hid (Below.step HB1.out hb2); clear hb2 hop)))
    go_loopw [16] (fun i wr => ∃ k : Nat, k ≤ PS.length ∧ i = .int .i64 (k : Int) ∧ Own w.heap.size wr (.slice (some ⟨w.heap.size, 0, none⟩) (n + 1) (n + 1)) (cntP (List.replicate (n + 1) 0) (PS.take k)) ∧ OwnP w1.heap.size wr (.slice pa PS.length pc) PS ∧ Below w.heap.size w wr) (fun i _ => PS.length - (intOf i).toNat)
    case atStart => exact ⟨0, by omega, rfl, by rw [HZ.out]; exact HO2.out, HOP.out, HB2.out⟩
    case round =>
      obtain ⟨k, hk, rfl, hown, hps, hbel⟩ := hrel
      clear HO1 HO2 HOP HB1 HB2
      generalize wr = wc at *
      by_cases hlt : k < PS.length
      · obtain ⟨g, rfl, hx1, hx2, hx3, hrg, hth⟩ := hps.at (by omega)
        have hr := hrg k hlt
        have hsuc := HTK.out k hlt
        have hln := HLN.out k
        have hc := HCL.out k hlt
        have hcall := HCK.out k hlt
        have hbd := HBD.out k (compsL (PS.getD k ([], [])).1 (PS.getD k ([], [])).2)
        unfold incL at hsuc
        generalize PS.getD k ([], []) = p at *
        obtain ⟨t, b⟩ := p
        simp only at hr hsuc hc hcall hbd
        generalize compsL t b = c at *
        generalize cntP (List.replicate (n + 1) 0) (PS.take k) = S at *
        generalize hy : S.getD c 0 = y at *
        have hy0 := hbd.1; have hy1 := hbd.2
        have HR := Lib.hid hr; have HSU := Lib.hid hsuc; have HL2 := Lib.hid hln; have HC2 := Lib.hid hcall; have HO := Lib.hid hown; have HP := Lib.hid hps; have HBE := Lib.hid hbel; have HY := Lib.hid hy
        have hsz := hbel.size
        clear hx1 hx3 hrg hth hr hsuc hln hcall hbd hown hps hbel hy
        go_wp2_with (first
          | (with_reducible refine boxP_load rfl (.tmp 18) rfl g (k * 26) t b rfl HR.out ?_)
          | ((with_reducible refine wp_storePairN rfl (.tmp 6) (.tmp 19) rfl t b rfl rfl ?_); intro w5 hs5 hb5; have HS5 := Lib.hid hs5; have HB5 := Lib.hid hb5; clear hs5 hb5)
          | (with_reducible refine wp_loadPair rfl (.tmp 6) rfl wc.heap.size t b rfl HS5.out ?_)
          | (go_at_call 52; ((with_reducible refine (HC2.out _).mono ?_); rintro e w6 ⟨rfl, hb6⟩; have hb7 := Below.step HB5.out hb6; have ho6 := HO.out.below hb7; have hdst := ho6.cellAt c (by rw [HL2.out]; omega); rw [HY.out] at hdst; have hfr := ho6.frozenAt c; have hnew := ho6.stored c (y + 1); rw [← HSU.out] at hnew; have HN := Lib.hid hnew; have HP7 := Lib.hid ((HP.out.below hb7).grown (grown_setCell (b := w.heap.size) (i := c) (v := .int .i64 (y + 1))) (fun kk hkk e => by have h9 : some g = some kk := hkk; cases h9; cases e; omega)); have HB7 := Lib.hid ((Below.step HBE.out hb7).setCell (p := ⟨w.heap.size, c, none⟩) (Nat.le_refl _) (.int .i64 (y + 1))); clear hb6 hb7 ho6 hnew)))
        go_roundw
        case rel => exact ⟨k + 1, by omega, by go_num, HN.out, HP7.out, HB7.out⟩
        case measure => simp [intOf]; omega
      · obtain rfl : k = PS.length := by omega
        have HO := Lib.hid hown; have HBE := Lib.hid hbel
        clear hown hps hbel
        go_wp2_with fail
        go_ret2
        exact ⟨_, rfl, HO.out, HBE.out⟩
  · have hb := inB_no (lo := 0) (hi := 4) (n := x) h
    have e1 : ok_CountByComponents x = false := hb
    have e2 : res_CountByComponents x = [] := by unfold res_CountByComponents; rw [hb]; rfl
    rw [e1, e2]
    have HB := Lib.hid hb; clear hb h e1 e2
    go_enter Try.func30, Try.ntmps30
    go_wp2_with (go_at_call 55; refine (isListedCount_any _ _).mono ?_; rintro e w' ⟨rfl, rfl⟩; rw [HB.out])
    go_ret2
    exact ⟨_, rfl, Own.nil _ _, Below.refl _ _⟩

set_option maxRecDepth 100000 in
set_option maxHeartbeats 4000000 in
theorem spec_CountByComponents (x : Int) (w : World) : Calls Try.prog 29 #[.int .i64 x] w (Gives w (res_CountByComponents x) (ok_CountByComponents x)) := by
  by_cases h : 0 ≤ x ∧ x ≤ 4
  · obtain ⟨n, rfl⟩ := Int.eq_ofNat_of_zero_le h.1
    have hn : n ≤ 4 := by omega
    have hb := inB_yes h.1 h.2
    have e1 : ok_CountByComponents (n : Int) = true := hb
    have e2 : res_CountByComponents (n : Int) = cntP (List.replicate (n + 1) 0) (upJ ((allL n).take (allL n).length) (allL n)) := by unfold res_CountByComponents; rw [hb, if_pos rfl, Int.toNat_natCast, List.take_length]; rfl
    rw [e1, e2]
    have hah : ∀ w, Calls Try.prog 58 #[.int .i64 (n : Int), .int .i64 0] w (MadeLL w (allL n)) := fun w => ahAll_any 7 n 0 w (by omega) (by omega) (by omega) (by omega)
    have h14 := allL_14 hn
    have hmc : ∀ j i, j < (allL n).length → i < (allL n).length → ∀ w u1 u2, Rd w u1 ((allL n).getD j []) → Rd w u2 ((allL n).getD i []) → Calls Try.prog 59 #[.agg #[u1, u2]] w fun e w' => e = .returned (.int .i64 ((compsL ((allL n).getD j []) ((allL n).getD i []) : Nat) : Int)) ∧ Below w.heap.size w w' := by
      intro j i hj hi w u1 u2 h1 h2
      have g1 := mem_good (by omega) (allL_mem hj)
      have g2 := mem_good (by omega) (allL_mem hi)
      exact meCount_any _ _ g1.1 g2.1 (by rw [g1.2, g2.2]) w u1 u2 h1 h2
    have hcl : ∀ j i, j < (allL n).length → i < (allL n).length → compsL ((allL n).getD j []) ((allL n).getD i []) ≤ n := fun j i hj hi => comps_le hn (allL_mem hj) (allL_mem hi)
    have hsu := fun k => upJ_succ (allL n) (allL n) k
    have hjl : ∀ j, (upJ ((allL n).take j) (allL n)).length ≤ 196 := by
      intro j
      rw [upJ_len, List.length_take]
      exact Nat.le_trans (Nat.mul_le_mul (Nat.le_trans (Nat.min_le_right _ _) h14) h14) (by omega)
    generalize allL n = L at *
    have HAH := Lib.hid hah; have HMC := Lib.hid hmc; have HCL := Lib.hid hcl; have HSU := Lib.hid hsu
    have HBD : Hid (∀ j p i c, 0 ≤ (cntP (List.replicate (n + 1) 0) (upJ (L.take j) L ++ (L.take i).map (fun q => (p, q)))).getD c 0 ∧ (cntP (List.replicate (n + 1) 0) (upJ (L.take j) L ++ (L.take i).map (fun q => (p, q)))).getD c 0 ≤ 1000) := by
      intro j p i c
      have h1 := cnt_bd (n + 1) (upJ (L.take j) L ++ (L.take i).map (fun q => (p, q))) c
      have h2 := hjl j
      have h3 := List.length_take_le i L
      have h4 : (upJ (L.take j) L ++ (L.take i).map (fun q => (p, q))).length ≤ 1000 := by
        rw [List.length_append, List.length_map, List.length_take]; omega
      omega
    have HLN : Hid (∀ ps, (cntP (List.replicate (n + 1) 0) ps).length = n + 1) := fun ps => by rw [cntP_len, List.length_replicate]
    have HTK : Hid (∀ S p i, i < L.length → cntP (List.replicate (n + 1) 0) (S ++ (L.take (i + 1)).map (fun q => (p, q))) = incL (cntP (List.replicate (n + 1) 0) (S ++ (L.take i).map (fun q => (p, q)))) (p, L.getD i [])) := by
      intro S p i hi
      rw [← cntP_snoc, List.take_add_one, List.getElem?_eq_getElem hi, Option.toList_some, List.map_append, ← List.append_assoc]
      simp [List.getD, hi]
    have HB := Lib.hid hb
    clear hah hmc hcl hsu hjl hb h e1 e2
    go_enter Try.func29, Try.ntmps29
    go_wp2_with (first
      | (go_at_call 53; refine (meListed_any _ _).mono ?_; rintro e w' ⟨rfl, rfl⟩; rw [HB.out])
      | (at_make; refine wp_make _ rfl _ _ rfl (n + 1) _ _ rfl rfl (by omega) (by omega) (by omega) ?_; intro w1 hown1 hbel1 hsz1; have HO1 := Lib.hid hown1; have HB1 := Lib.hid hbel1; clear hown1 hbel1)
      | (go_at_call 58; ((with_reducible refine (HAH.out _).mono ?_); rintro e w2 ⟨vu, us, rfl, hU, hb2⟩; obtain ⟨au, cu, rfl, hcu1, hcu2⟩ := hU.form; unfold maxLen at hcu2; have HU := Lib.hid hU; have HO2 := Lib.hid (HO1.out.below hb2); have HB2 := Lib.hid (Below.step HB1.out hb2); have hz2 := hb2.size; clear hb2 hU)))
    go_loopw [18] (fun i wr => ∃ j : Nat, j ≤ L.length ∧ i = .int .i64 (j : Int) ∧ Own w.heap.size wr (.slice (some ⟨w.heap.size, 0, none⟩) (n + 1) (n + 1)) (cntP (List.replicate (n + 1) 0) (upJ (L.take j) L)) ∧ OwnLL w1.heap.size w2.heap.size wr (.slice au L.length cu) us L ∧ w2.heap.size ≤ wr.heap.size ∧ Below w.heap.size w wr) (fun i _ => L.length - (intOf i).toNat)
    case atStart => exact ⟨0, by omega, rfl, HO2.out, HU.out, Nat.le_refl _, HB2.out⟩
    case round =>
      obtain ⟨j, hj, rfl, hown, hUj, hwj, hbel⟩ := hrel
      clear HO1 HO2 HU HB1 HB2
      generalize wr = wb at *
      by_cases hjt : j < L.length
      · obtain ⟨gu, rfl, hgu0, hgu1, hcellu, _⟩ := hUj.at (by omega)
        have hcu3 := hcellu j hjt
        have hsuc := HSU.out j hjt
        have HO := Lib.hid hown; have HUJ := Lib.hid hUj; have HBE := Lib.hid hbel; have HSC := Lib.hid hsuc
        have hszb := hbel.size
        generalize hpe : rowV us j = pu at *
        have hru := HUJ.out.own j hjt
        rw [hpe] at hru
        obtain ⟨p1, p2, p3, rfl⟩ := hru.form'
        have HPE := Lib.hid hpe
        clear hcellu hown hUj hbel hsuc hpe hru
        go_wp2_with (go_at_call 58; ((with_reducible refine (HAH.out _).mono ?_); rintro e w3 ⟨vv, vvs, rfl, hV, hb3⟩; obtain ⟨av, cv, rfl, hcv1, hcv2⟩ := hV.form; unfold maxLen at hcv2; have HV := Lib.hid hV; have HO3 := Lib.hid (HO.out.below hb3); have HU3 := Lib.hid (HUJ.out.below hb3); have HB3 := Lib.hid (Below.step HBE.out hb3); have hz3 := hb3.size; clear hb3 hV))
        go_loopw [25] (fun i wr => ∃ t : Nat, t ≤ L.length ∧ i = .int .i64 (t : Int) ∧ Own w.heap.size wr (.slice (some ⟨w.heap.size, 0, none⟩) (n + 1) (n + 1)) (cntP (List.replicate (n + 1) 0) (upJ (L.take j) L ++ (L.take t).map (fun q => (L.getD j [], q)))) ∧ OwnLL w1.heap.size w2.heap.size wr (.slice (some ⟨gu, 0, none⟩) L.length cu) us L ∧ OwnLL wb.heap.size w3.heap.size wr (.slice av L.length cv) vvs L ∧ w3.heap.size ≤ wr.heap.size ∧ Below w.heap.size w wr) (fun i _ => L.length - (intOf i).toNat)
        case atStart => exact ⟨0, by omega, rfl, by simpa using HO3.out, HU3.out, HV.out, Nat.le_refl _, HB3.out⟩
        case round =>
          obtain ⟨t, ht, rfl, hown, hUt, hVt, hwt, hbel⟩ := hrel
          clear HO3 HU3 HV HB3 HO HUJ HBE
          generalize wr = wc at *
          by_cases htt : t < L.length
          · obtain ⟨gv, rfl, hgv0, hgv1, hcellv, _⟩ := hVt.at (by omega)
            have hcv3 := hcellv t htt
            have hru := hUt.own j hjt
            rw [HPE.out] at hru
            have hrv := hVt.own t htt
            have hmc := HMC.out j t hjt htt
            have hcl := HCL.out j t hjt htt
            have hbd := HBD.out j (L.getD j []) t (compsL (L.getD j []) (L.getD t []))
            have htk := HTK.out (upJ (L.take j) L) (L.getD j []) t htt
            unfold incL at htk
            simp only at htk
            have hln := HLN.out (upJ (L.take j) L ++ (L.take t).map (fun q => (L.getD j [], q)))
            generalize cntP (List.replicate (n + 1) 0) (upJ (L.take j) L ++ (L.take t).map (fun q => (L.getD j [], q))) = S at *
            generalize L.getD j [] = pp at *
            generalize L.getD t [] = qq at *
            generalize compsL pp qq = c at *
            generalize hy : S.getD c 0 = y at *
            generalize hqe : rowV vvs t = qu at *
            obtain ⟨q1, q2, q3, rfl⟩ := hrv.form'
            have hy0 := hbd.1; have hy1 := hbd.2
            have HMK := Lib.hid hmc; have HTC := Lib.hid htk; have HL2 := Lib.hid hln; have HO := Lib.hid hown; have HUT := Lib.hid hUt; have HVT := Lib.hid hVt; have HBE := Lib.hid hbel; have HRU := Lib.hid hru; have HRV := Lib.hid hrv; have HY := Lib.hid hy
            have hsz := hbel.size
            clear hcellv hru hrv hmc hbd htk hln hown hUt hVt hbel hy hqe
            go_wp2_with (go_at_call 59; ((with_reducible refine (HMK.out _ _ _ HRU.out.rd HRV.out.rd).mono ?_); rintro e w6 ⟨rfl, hb6⟩; have ho6 := HO.out.below hb6; have hdst := ho6.cellAt c (by rw [HL2.out]; omega); rw [HY.out] at hdst; have hfr := ho6.frozenAt c; have hnew := ho6.stored c (y + 1); rw [← HTC.out] at hnew; have HN := Lib.hid hnew; have HU6 := Lib.hid ((HUT.out.below hb6).grown (grown_setCell (b := w.heap.size) (i := c) (v := .int .i64 (y + 1))) (fun kk e => by cases e; omega)); have HV6 := Lib.hid ((HVT.out.below hb6).grown (grown_setCell (b := w.heap.size) (i := c) (v := .int .i64 (y + 1))) (fun kk e => by cases e; omega)); have HB6 := Lib.hid ((Below.step HBE.out hb6).setCell (p := ⟨w.heap.size, c, none⟩) (Nat.le_refl _) (.int .i64 (y + 1))); have hz6 : w3.heap.size ≤ (w6.setCell ⟨w.heap.size, c, none⟩ (.int .i64 (y + 1))).heap.size := Nat.le_trans hwt (Nat.le_trans hb6.size (grown_setCell (b := w.heap.size) (i := c) (v := .int .i64 (y + 1))).size); clear hb6 ho6 hnew))
            go_roundw
            case rel => exact ⟨t + 1, by omega, by go_num, HN.out, HU6.out, HV6.out, hz6, HB6.out⟩
            case measure => simp [intOf]; omega
          · obtain rfl : t = L.length := by omega
            rw [List.take_length, ← HSC.out] at hown
            have HO := Lib.hid hown; have HUT := Lib.hid hUt; have HBE := Lib.hid hbel
            clear hown hUt hVt hbel
            go_wp2_with fail
            go_roundw
            case rel => exact ⟨j + 1, by omega, by go_num, HO.out, HUT.out, by omega, HBE.out⟩
            case measure => simp [intOf]; omega
      · obtain rfl : j = L.length := by omega
        have HO := Lib.hid hown; have HBE := Lib.hid hbel
        clear hown hUj hbel
        go_wp2_with fail
        go_ret2
        exact ⟨_, rfl, HO.out, HBE.out⟩
  · have hb := inB_no (lo := 0) (hi := 4) (n := x) h
    have e1 : ok_CountByComponents x = false := hb
    have e2 : res_CountByComponents x = [] := by unfold res_CountByComponents; rw [hb]; rfl
    rw [e1, e2]
    have HB := Lib.hid hb; clear hb h e1 e2
    go_enter Try.func29, Try.ntmps29
    go_wp2_with (go_at_call 53; refine (meListed_any _ _).mono ?_; rintro e w' ⟨rfl, rfl⟩; rw [HB.out])
    go_ret2
    exact ⟨_, rfl, Own.nil _ _, Below.refl _ _⟩

end Go.Proofs.Ytpanajnlkacmdab
