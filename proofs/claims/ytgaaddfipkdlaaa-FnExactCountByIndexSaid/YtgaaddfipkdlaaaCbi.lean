/- CountByIndex: program and model. -/
import Derived.Test.YtgaaddfipkdlaaaPartsR
import Derived.Test.YtgaaddfipkdlaaaNum
namespace Go.Proofs.Ytgaaddfipkdlaaa
open Go.RowKit
set_option linter.unusedSimpArgs false
set_option linter.unusedVariables false

theorem cbi_ok {n : Nat} (h1 : 1 ≤ n) (h7 : n ≤ 7) : ok_CountByIndex (n : Int) = true ∧ res_CountByIndex (n : Int) = tallyI (List.replicate (2 * n + 1) 0) (idxAll (allPF 7 n) (allPF 7 n).length) := by
  have := inB_yes (n := (n : Int)) (lo := 1) (hi := 7) (by omega) (by omega)
  unfold ok_CountByIndex res_CountByIndex
  rw [this, if_pos rfl, Int.toNat_natCast]
  exact ⟨rfl, rfl⟩
theorem cbi_no {x : Int} (h : ¬ (1 ≤ x ∧ x ≤ 7)) : ok_CountByIndex x = false ∧ res_CountByIndex x = [] := by
  unfold ok_CountByIndex res_CountByIndex
  rw [inB_no h]; exact ⟨rfl, rfl⟩
theorem idxRow_zero (t : List Int) (L : List (List Int)) : idxRow t (L.take 0) = [] := by simp [idxRow]
set_option maxHeartbeats 8000000 in
set_option maxRecDepth 100000 in
theorem impl_CountByIndex (x : Int) (w : World) : Calls Try.prog 25 #[.int .i64 x] w (Gives w (res_CountByIndex x) (ok_CountByIndex x)) := by
  by_cases h : 1 ≤ x ∧ x ≤ 7
  · obtain ⟨n, rfl⟩ := Int.eq_ofNat_of_zero_le (by omega : 0 ≤ x)
    have hn1 : 1 ≤ n := by omega
    have hn7 : n ≤ 7 := by omega
    clear h
    have hpt := fun w => partsOfSum_any 7 n w (by omega) (by omega)
    have h64 := (chkP_of (f := 7) (n := n) (by omega) (by omega)).1
    rw [(cbi_ok (by omega) (by omega)).1, (cbi_ok (by omega) (by omega)).2]
    have hix := fun k c (hk : k < (allPF 7 n).length) (hc : c < (allPF 7 n).length) => idx_facts (n := n) (by omega) (by omega) (getD_memL hk) (getD_memL hc)
    have hct := fun k c (hk : k < (allPF 7 n).length) (hc : c < (allPF 7 n).length) W a1 a2 n1 c1 n2 c2 h1 h2 => count_any ((allPF 7 n).getD k []) ((allPF 7 n).getD c []) W a1 a2 n1 c1 n2 c2 h1 h2 (allP_weed (by omega) (getD_memL hk) (getD_memL hc))
    have hci := fun k c (hk : k < (allPF 7 n).length) (hc : c < (allPF 7 n).length) W => (show Calls Try.prog 42 #[.agg #[.int .i64 (weedPaths ((allPF 7 n).getD k []) ((allPF 7 n).getD c []) : Nat), .int .i64 (weedCycles ((allPF 7 n).getD k []) ((allPF 7 n).getD c []) : Nat)]] W (fun e w' => e = .returned (.int .i64 (idxW ((allPF 7 n).getD k []) ((allPF 7 n).getD c []) : Nat)) ∧ Below W.heap.size W w') from by
      have h := idx_facts (n := n) (by omega) (by omega) (getD_memL hk) (getD_memL hc)
      rw [← h.1]
      exact countIndex_any _ _ h.2.2 W)
    generalize allPF 7 n = L at *
    have HLN : Hid (∀ is, (tallyI (List.replicate (2 * n + 1) 0) is).length = 2 * n + 1) := fun is => by rw [tally_len, List.length_replicate]
    have HIL : Hid (∀ k t c, k ≤ L.length → (idxAll L k ++ idxRow t (L.take c)).length ≤ 10000) := fun k t c hk => by
      rw [List.length_append, idxAll_len L k hk]
      have : k * L.length ≤ 64 * 64 := Nat.mul_le_mul (by omega) h64
      simp only [idxRow, List.length_map, List.length_take]
      omega
    have HAS := Lib.hid (fun k (hk : k < L.length) => idxAll_succ L hk)
    have HRS := Lib.hid (fun t c (hc : c < L.length) => idxRow_take t L hc)
    have HFUL : Hid (∀ t, idxRow t (L.take L.length) = idxRow t L) := fun t => by rw [List.take_length]
    have HIX := Lib.hid hix
    clear hix h64
    have HPT := Lib.hid hpt; have HCT := Lib.hid hct; have HCI := Lib.hid hci
    clear hpt hct hci
    go_enter Try.func25, Try.ntmps25
    go_wp2_with (first
      | (at_make; refine wp_make _ rfl _ _ rfl (2 * n + 1) _ _ rfl rfl (by omega) (by omega) (by omega) ?_; intro w1 hown1 hbel1 hsz1; have HO1 := Lib.hid hown1; have HB1 := Lib.hid hbel1; clear hown1 hbel1)
      | (go_at_call 45; ((with_reducible refine (HPT.out _).mono ?_); rintro e w2 ⟨vu, us, rfl, hU, hb2⟩; obtain ⟨au, cu, rfl, hcu1, hcu2⟩ := hU.form; unfold maxLen at hcu2; have HU := Lib.hid hU; have HO2 := Lib.hid (HO1.out.below hb2); have HB2 := Lib.hid (Below.step HB1.out hb2); have hz2 := hb2.size; clear hb2 hU)))
    go_loopw [22] (fun i wr => ∃ k : Nat, k ≤ L.length ∧ i = .int .i64 (k : Int) ∧ Own w.heap.size wr (.slice (some ⟨w.heap.size, 0, none⟩) (2 * n + 1) (2 * n + 1)) (tallyI (List.replicate (2 * n + 1) 0) (idxAll L k)) ∧ OwnLP w1.heap.size w2.heap.size wr (.slice au L.length cu) us L ∧ w2.heap.size ≤ wr.heap.size ∧ Below w.heap.size w wr) (fun i _ => L.length - (intOf i).toNat)
    case atStart => exact ⟨0, by omega, rfl, by rw [idxAll_zero]; exact HO2.out, HU.out, Nat.le_refl _, HB2.out⟩
    case round =>
      obtain ⟨k, hk, rfl, hown, hUj, hwj, hbel⟩ := hrel
      clear HO1 HO2 HB1 HB2
      generalize wr = wb at *
      by_cases hlt : k < L.length
      · obtain ⟨gu, rfl, hgu0, hgu1, hcellu, _⟩ := hUj.at (by omega)
        have hcu3 := hcellu k hlt
        have HO := Lib.hid hown; have HUJ := Lib.hid hUj; have HBE := Lib.hid hbel
        have hszb := hbel.size
        have hru := HUJ.out.own k hlt
        generalize hpe : rowV us k = pu at *
        obtain ⟨p1, p2, p3, rfl⟩ := hru.form'
        have HPE := Lib.hid hpe
        clear hcellu hown hUj hbel hpe hru
        go_wp2_with (go_at_call 45; ((with_reducible refine (HPT.out _).mono ?_); rintro e w3 ⟨vv, vvs, rfl, hV, hb3⟩; obtain ⟨av, cv, rfl, hcv1, hcv2⟩ := hV.form; unfold maxLen at hcv2; have HV := Lib.hid hV; have HO3 := Lib.hid (HO.out.below hb3); have HU3 := Lib.hid (OwnLP.below HUJ.out hb3); have HB3 := Lib.hid (Below.step HBE.out hb3); have hz3 := hb3.size; clear hb3 hV))
        go_loopw [29] (fun i wr => ∃ c : Nat, c ≤ L.length ∧ i = .int .i64 (c : Int) ∧ Own w.heap.size wr (.slice (some ⟨w.heap.size, 0, none⟩) (2 * n + 1) (2 * n + 1)) (tallyI (List.replicate (2 * n + 1) 0) (idxAll L k ++ idxRow (L.getD k []) (L.take c))) ∧ OwnLP w1.heap.size w2.heap.size wr (.slice (some ⟨gu, 0, none⟩) L.length cu) us L ∧ OwnLP wb.heap.size w3.heap.size wr (.slice av L.length cv) vvs L ∧ w3.heap.size ≤ wr.heap.size ∧ Below w.heap.size w wr) (fun i _ => L.length - (intOf i).toNat)
        case atStart => exact ⟨0, by omega, rfl, by rw [idxRow_zero, List.append_nil]; exact HO3.out, HU3.out, HV.out, by first | exact Nat.le_refl _ | exact hwj, HB3.out⟩
        case round =>
          obtain ⟨c, hc, rfl, hown, hUt, hVt, hwt, hbel⟩ := hrel
          clear HO3 HU3 HV HB3 HO HUJ HBE
          generalize wr = wc at *
          by_cases hcl : c < L.length
          · obtain ⟨gv, rfl, hgv0, hgv1, hcellv, _⟩ := hVt.at (by omega)
            have hcv3 := hcellv c hcl
            have hru := hUt.own k hlt
            rw [HPE.out] at hru
            have hrv := hVt.own c hcl
            generalize hqe : rowV vvs c = qu at *
            obtain ⟨q1, q2, q3, rfl⟩ := hrv.form'
            have HO := Lib.hid hown; have HUT := Lib.hid hUt; have HVT := Lib.hid hVt; have HBE := Lib.hid hbel; have HRU := Lib.hid hru; have HRV := Lib.hid hrv
            have hsz := hbel.size
            clear hcellv hru hrv hown hUt hVt hbel hqe
            have HCK := Lib.hid (HCT.out k c hlt hcl wc p1 q1 p2 p3 q2 q3 HRU.out.rd HRV.out.rd)
            have HCJ := Lib.hid (HCI.out k c hlt hcl)
            generalize weedPaths (L.getD k []) (L.getD c []) = P at *
            generalize weedCycles (L.getD k []) (L.getD c []) = C at *
            have hix := HIX.out k c hlt hcl
            have hsn := tally_snoc (List.replicate (2 * n + 1) 0) (idxAll L k ++ idxRow (L.getD k []) (L.take c)) (idxW (L.getD k []) (L.getD c []))
            rw [List.append_assoc, ← HRS.out (L.getD k []) c hcl] at hsn
            have hbd := tally_zero (2 * n + 1) (idxW (L.getD k []) (L.getD c [])) (idxAll L k ++ idxRow (L.getD k []) (L.take c))
            have hil := HIL.out k (L.getD k []) c hk
            have hln := HLN.out (idxAll L k ++ idxRow (L.getD k []) (L.take c))
            have HTC := Lib.hid hsn; have HL2 := Lib.hid hln
            generalize tallyI (List.replicate (2 * n + 1) 0) (idxAll L k ++ idxRow (L.getD k []) (L.take c)) = S at *
            have hi2 := hix.2.1
            generalize idxW (L.getD k []) (L.getD c []) = ix at *
            generalize hy : S.getD ix 0 = y at *
            have hy0 : 0 ≤ y := hbd.1
            have hy1 : y ≤ 10000 := by have := hbd.2; omega
            have HY := Lib.hid hy
            clear hix hsn hbd hil hln hy
            go_wp2_with (first
              | (go_at_call 40; ((with_reducible refine HCK.out.mono ?_); rintro e w6 ⟨rfl, hb6⟩; have HB6 := Lib.hid hb6; clear hb6))
              | (go_at_call 42; ((with_reducible refine (HCJ.out _).mono ?_); rintro e w8 ⟨rfl, hb8⟩; have hb9 := Below.step HB6.out hb8; clear hb8; have ho8 := HO.out.below hb9; have hdst := ho8.cellAt ix (by rw [HL2.out]; omega); rw [HY.out] at hdst; have hfr := ho8.frozenAt ix; have hnew := ho8.stored ix (y + 1); rw [← HTC.out] at hnew; have HN := Lib.hid hnew; have HU6 := Lib.hid ((OwnLP.below HUT.out hb9).grown (grown_setCell (b := w.heap.size) (i := ix) (v := .int .i64 (y + 1))) (fun kk e => by cases e; omega)); have HV6 := Lib.hid ((OwnLP.below HVT.out hb9).grown (grown_setCell (b := w.heap.size) (i := ix) (v := .int .i64 (y + 1))) (fun kk e => by cases e; omega)); have HB6 := Lib.hid ((Below.step HBE.out hb9).setCell (p := ⟨w.heap.size, ix, none⟩) (Nat.le_refl _) (.int .i64 (y + 1))); have hz6 : w3.heap.size ≤ (w8.setCell ⟨w.heap.size, ix, none⟩ (.int .i64 (y + 1))).heap.size := Nat.le_trans hwt (Nat.le_trans hb9.size (grown_setCell (b := w.heap.size) (i := ix) (v := .int .i64 (y + 1))).size); clear hb9 ho8 hnew)))
            go_roundw
            case rel => exact ⟨c + 1, by omega, by go_num, HN.out, HU6.out, HV6.out, hz6, HB6.out⟩
            case measure => simp [intOf]; omega
          · obtain rfl : c = L.length := by omega
            rw [HFUL.out, ← HAS.out k hlt] at hown
            have HO := Lib.hid hown; have HUT := Lib.hid hUt; have HBE := Lib.hid hbel
            clear hown hUt hVt hbel
            go_wp2_with fail
            go_roundw
            case rel => exact ⟨k + 1, by omega, by go_num, HO.out, HUT.out, by omega, HBE.out⟩
            case measure => simp [intOf]; omega
      · obtain rfl : k = L.length := by omega
        have HO := Lib.hid hown; have HBE := Lib.hid hbel
        clear hown hUj hbel
        go_wp2_with fail
        go_ret2
        exact ⟨_, rfl, HO.out, HBE.out⟩
  · rw [(cbi_no h).1, (cbi_no h).2]
    by_cases hx : x < 1
    · clear h
      go_enter Try.func25, Try.ntmps25
      go_wp2
      go_ret2
      exact ⟨_, rfl, Own.nil _ _, Below.refl _ _⟩
    · have h7 : 7 < x := by omega
      clear h
      go_enter Try.func25, Try.ntmps25
      go_wp2
      go_ret2
      exact ⟨_, rfl, Own.nil _ _, Below.refl _ _⟩
set_option maxHeartbeats 8000000 in
set_option maxRecDepth 100000 in
theorem spec_CountByIndex (x : Int) (w : World) : Calls Try.prog 24 #[.int .i64 x] w (Gives w (res_CountByIndex x) (ok_CountByIndex x)) := by
  by_cases h : 1 ≤ x ∧ x ≤ 7
  · obtain ⟨n, rfl⟩ := Int.eq_ofNat_of_zero_le (by omega : 0 ≤ x)
    have hn1 : 1 ≤ n := by omega
    have hn7 : n ≤ 7 := by omega
    have HI := Lib.hid (inB_yes h.1 h.2)
    clear h
    have hpt := fun w => swAll_any 7 n w (by omega) (by omega)
    have h64 := (chkP_of (f := 7) (n := n) (by omega) (by omega)).1
    rw [(cbi_ok (by omega) (by omega)).1, (cbi_ok (by omega) (by omega)).2]
    have hix := fun k c (hk : k < (allPF 7 n).length) (hc : c < (allPF 7 n).length) => idx_facts (n := n) (by omega) (by omega) (getD_memL hk) (getD_memL hc)
    have hct := fun k c (hk : k < (allPF 7 n).length) (hc : c < (allPF 7 n).length) W a1 a2 n1 n2 c1 c2 (h1 : Rd W (.slice a1 n1 c1) ((allPF 7 n).getD k [])) (h2 : Rd W (.slice a2 n2 c2) ((allPF 7 n).getD c [])) => (show Calls Try.prog 41 #[.agg #[.slice a1 n1 c1, .slice a2 n2 c2]] W (fun e w' => e = .returned (.int .i64 (idxW ((allPF 7 n).getD k []) ((allPF 7 n).getD c []) : Nat)) ∧ Below W.heap.size W w') from by
      have h := idx_facts (n := n) (by omega) (by omega) (getD_memL hk) (getD_memL hc)
      rw [← h.1]
      exact swIndex_any _ _ W a1 a2 n1 n2 c1 c2 h1 h2 (allP_weed (by omega) (getD_memL hk) (getD_memL hc)))
    generalize allPF 7 n = L at *
    have HLN : Hid (∀ is, (tallyI (List.replicate (2 * n + 1) 0) is).length = 2 * n + 1) := fun is => by rw [tally_len, List.length_replicate]
    have HIL : Hid (∀ k t c, k ≤ L.length → (idxAll L k ++ idxRow t (L.take c)).length ≤ 10000) := fun k t c hk => by
      rw [List.length_append, idxAll_len L k hk]
      have : k * L.length ≤ 64 * 64 := Nat.mul_le_mul (by omega) h64
      simp only [idxRow, List.length_map, List.length_take]
      omega
    have HAS := Lib.hid (fun k (hk : k < L.length) => idxAll_succ L hk)
    have HRS := Lib.hid (fun t c (hc : c < L.length) => idxRow_take t L hc)
    have HFUL : Hid (∀ t, idxRow t (L.take L.length) = idxRow t L) := fun t => by rw [List.take_length]
    have HIX := Lib.hid hix
    clear hix h64
    have HPT := Lib.hid hpt; have HCT := Lib.hid hct
    clear hpt hct
    go_enter Try.func24, Try.ntmps24
    go_wp2_with (first
      | (go_at_call 43; refine (l1In_any _ _ _ _).mono ?_; rintro e w' ⟨rfl, rfl⟩; rw [HI.out])
      | (at_make; refine wp_make _ rfl _ _ rfl (2 * n + 1) _ _ rfl rfl (by omega) (by omega) (by omega) ?_; intro w1 hown1 hbel1 hsz1; have HO1 := Lib.hid hown1; have HB1 := Lib.hid hbel1; clear hown1 hbel1)
      | (go_at_call 44; ((with_reducible refine (HPT.out _).mono ?_); rintro e w2 ⟨vu, us, rfl, hU, hb2⟩; obtain ⟨au, cu, rfl, hcu1, hcu2⟩ := hU.form; unfold maxLen at hcu2; have HU := Lib.hid hU; have HO2 := Lib.hid (HO1.out.below hb2); have HB2 := Lib.hid (Below.step HB1.out hb2); have hz2 := hb2.size; clear hb2 hU)))
    go_loopw [21] (fun i wr => ∃ k : Nat, k ≤ L.length ∧ i = .int .i64 (k : Int) ∧ Own w.heap.size wr (.slice (some ⟨w.heap.size, 0, none⟩) (2 * n + 1) (2 * n + 1)) (tallyI (List.replicate (2 * n + 1) 0) (idxAll L k)) ∧ OwnLL w1.heap.size w2.heap.size wr (.slice au L.length cu) us L ∧ w2.heap.size ≤ wr.heap.size ∧ Below w.heap.size w wr) (fun i _ => L.length - (intOf i).toNat)
    case atStart => exact ⟨0, by omega, rfl, by rw [idxAll_zero]; exact HO2.out, HU.out, Nat.le_refl _, HB2.out⟩
    case round =>
      obtain ⟨k, hk, rfl, hown, hUj, hwj, hbel⟩ := hrel
      clear HO1 HO2 HB1 HB2
      generalize wr = wb at *
      by_cases hlt : k < L.length
      · obtain ⟨gu, rfl, hgu0, hgu1, hcellu, _⟩ := hUj.at (by omega)
        have hcu3 := hcellu k hlt
        have HO := Lib.hid hown; have HUJ := Lib.hid hUj; have HBE := Lib.hid hbel
        have hszb := hbel.size
        have hru := HUJ.out.own k hlt
        generalize hpe : rowV us k = pu at *
        obtain ⟨p1, p2, p3, rfl⟩ := hru.form'
        have HPE := Lib.hid hpe
        clear hcellu hown hUj hbel hpe hru
        have HO3 := HO; have HU3 := HUJ; have HV := HUJ; have HB3 := HBE
        go_wp2_with fail
        go_loopw [27] (fun i wr => ∃ c : Nat, c ≤ L.length ∧ i = .int .i64 (c : Int) ∧ Own w.heap.size wr (.slice (some ⟨w.heap.size, 0, none⟩) (2 * n + 1) (2 * n + 1)) (tallyI (List.replicate (2 * n + 1) 0) (idxAll L k ++ idxRow (L.getD k []) (L.take c))) ∧ OwnLL w1.heap.size w2.heap.size wr (.slice (some ⟨gu, 0, none⟩) L.length cu) us L ∧ OwnLL w1.heap.size w2.heap.size wr (.slice (some ⟨gu, 0, none⟩) L.length cu) us L ∧ w2.heap.size ≤ wr.heap.size ∧ Below w.heap.size w wr) (fun i _ => L.length - (intOf i).toNat)
        case atStart => exact ⟨0, by omega, rfl, by rw [idxRow_zero, List.append_nil]; exact HO3.out, HU3.out, HV.out, by first | exact Nat.le_refl _ | exact hwj, HB3.out⟩
        case round =>
          obtain ⟨c, hc, rfl, hown, hUt, hVt, hwt, hbel⟩ := hrel
          clear HO3 HU3 HV HB3 HO HUJ HBE
          generalize wr = wc at *
          by_cases hcl : c < L.length
          · obtain ⟨gv, hgv, hgv0, hgv1, hcellv, _⟩ := hVt.at (by omega)
            have hcv3 := hcellv c hcl
            have hru := hUt.own k hlt
            rw [HPE.out] at hru
            have hrv := hVt.own c hcl
            generalize hqe : rowV us c = qu at *
            obtain ⟨q1, q2, q3, rfl⟩ := hrv.form'
            have HO := Lib.hid hown; have HUT := Lib.hid hUt; have HVT := Lib.hid hVt; have HBE := Lib.hid hbel; have HRU := Lib.hid hru; have HRV := Lib.hid hrv
            have hsz := hbel.size
            clear hcellv hru hrv hown hUt hVt hbel hqe
            have hgg : gu = gv := by simpa using hgv
            subst hgg
            clear hgv
            have HCK := Lib.hid (HCT.out k c hlt hcl wc p1 q1 p2 q2 p3 q3 HRU.out.rd HRV.out.rd)
            have hix := HIX.out k c hlt hcl
            have hsn := tally_snoc (List.replicate (2 * n + 1) 0) (idxAll L k ++ idxRow (L.getD k []) (L.take c)) (idxW (L.getD k []) (L.getD c []))
            rw [List.append_assoc, ← HRS.out (L.getD k []) c hcl] at hsn
            have hbd := tally_zero (2 * n + 1) (idxW (L.getD k []) (L.getD c [])) (idxAll L k ++ idxRow (L.getD k []) (L.take c))
            have hil := HIL.out k (L.getD k []) c hk
            have hln := HLN.out (idxAll L k ++ idxRow (L.getD k []) (L.take c))
            have HTC := Lib.hid hsn; have HL2 := Lib.hid hln
            generalize tallyI (List.replicate (2 * n + 1) 0) (idxAll L k ++ idxRow (L.getD k []) (L.take c)) = S at *
            have hi2 := hix.2.1
            generalize idxW (L.getD k []) (L.getD c []) = ix at *
            generalize hy : S.getD ix 0 = y at *
            have hy0 : 0 ≤ y := hbd.1
            have hy1 : y ≤ 10000 := by have := hbd.2; omega
            have HY := Lib.hid hy
            clear hix hsn hbd hil hln hy
            go_wp2_with (go_at_call 41; ((with_reducible refine HCK.out.mono ?_); rintro e w8 ⟨rfl, hb9⟩; have ho8 := HO.out.below hb9; have hdst := ho8.cellAt ix (by rw [HL2.out]; omega); rw [HY.out] at hdst; have hfr := ho8.frozenAt ix; have hnew := ho8.stored ix (y + 1); rw [← HTC.out] at hnew; have HN := Lib.hid hnew; have HU6 := Lib.hid ((OwnLL.below HUT.out hb9).grown (grown_setCell (b := w.heap.size) (i := ix) (v := .int .i64 (y + 1))) (fun kk e => by cases e; omega)); have HV6 := Lib.hid ((OwnLL.below HVT.out hb9).grown (grown_setCell (b := w.heap.size) (i := ix) (v := .int .i64 (y + 1))) (fun kk e => by cases e; omega)); have HB6 := Lib.hid ((Below.step HBE.out hb9).setCell (p := ⟨w.heap.size, ix, none⟩) (Nat.le_refl _) (.int .i64 (y + 1))); have hz6 : w2.heap.size ≤ (w8.setCell ⟨w.heap.size, ix, none⟩ (.int .i64 (y + 1))).heap.size := Nat.le_trans hwt (Nat.le_trans hb9.size (grown_setCell (b := w.heap.size) (i := ix) (v := .int .i64 (y + 1))).size); clear hb9 ho8 hnew))
            go_roundw
            case rel => exact ⟨c + 1, by omega, by go_num, HN.out, HU6.out, HV6.out, hz6, HB6.out⟩
            case measure => simp [intOf]; omega
          · obtain rfl : c = L.length := by omega
            rw [HFUL.out, ← HAS.out k hlt] at hown
            have HO := Lib.hid hown; have HUT := Lib.hid hUt; have HBE := Lib.hid hbel
            clear hown hUt hVt hbel
            go_wp2_with fail
            go_roundw
            case rel => exact ⟨k + 1, by omega, by go_num, HO.out, HUT.out, by omega, HBE.out⟩
            case measure => simp [intOf]; omega
      · obtain rfl : k = L.length := by omega
        have HO := Lib.hid hown; have HBE := Lib.hid hbel
        clear hown hUj hbel
        go_wp2_with fail
        go_ret2
        exact ⟨_, rfl, HO.out, HBE.out⟩
  · rw [(cbi_no h).1, (cbi_no h).2]
    have HI := Lib.hid (inB_no h)
    clear h
    go_enter Try.func24, Try.ntmps24
    go_wp2_with (go_at_call 43; refine (l1In_any _ _ _ _).mono ?_; rintro e w' ⟨rfl, rfl⟩; rw [HI.out])
    go_ret2
    exact ⟨_, rfl, Own.nil _ _, Below.refl _ _⟩
end Go.Proofs.Ytgaaddfipkdlaaa
