/- meAll, CountMeanders. -/
import Derived.Test.YtaeeopdiodaiaabMeAll
namespace Go.Proofs.Ytaeeopdiodaiaab
open Go.RowKit
set_option linter.unusedSimpArgs false
set_option linter.unusedVariables false

set_option maxHeartbeats 1000000 in
theorem l1Own_run (v : Value) (l : List Int) (w : World) (h : Rd w v l) (hl : l.length ≤ 1000000) : Calls Try.prog 68 #[v] w (Made w l) := by
  have HR := Lib.hid h; have HL := Lib.hid hl; clear h hl
  go_enter Try.func68, Try.ntmps68
  go_wp2_with (at_builtin; refine wp_append _ rfl _ _ rfl w.heap.size _ v [] l rfl rfl (Own.lit0 _ _ (Nat.le_refl _)) (Rd.below HR.out (Below.alloc1 _ _)) (by have := HL.out; simp; omega) (by simp) ?_; intro v' w1 hown1 hgr hbel1)
  go_ret
  exact ⟨_, rfl, hown1, (Below.alloc1 _ _).trans hbel1⟩

set_option maxRecDepth 100000 in
set_option maxHeartbeats 4000000 in
theorem meAll_any (n : Nat) (hn : n ≤ 4) (w : World) : Calls Try.prog 64 #[.int .i64 (n : Int)] w fun e w' => ∃ v es, e = .returned v ∧ OwnML w.heap.size w' v es (mcJ n (allL n)) ∧ Below w.heap.size w w' := by
  have hah : ∀ w, Calls Try.prog 67 #[.int .i64 (n : Int), .int .i64 0] w (MadeLL w (allL n)) := fun w => ahAll_any 7 n 0 w (by omega) (by omega) (by omega) (by omega)
  have h14 := allL_14 hn
  have hcl : ∀ j, j < (allL n).length → ∀ w u, Rd w u ((allL n).getD j []) → Calls Try.prog 95 #[u, .int .i64 1] w (MadeLL w (clN n ((allL n).getD j []))) := by
    intro j hj w u h
    have g1 := mem_good (by omega) (allL_mem hj)
    have := meClosing_any ((allL n).getD j []) 1 g1.1 w u h
    unfold closeL at this
    rw [g1.2, Nat.mul_div_cancel_left _ (by omega)] at this
    exact this
  have hlo : ∀ j, j < (allL n).length → ∀ w u, Rd w u ((allL n).getD j []) → Calls Try.prog 68 #[u] w (Made w ((allL n).getD j [])) := by
    intro j hj w u h
    have g1 := mem_good (by omega) (allL_mem hj)
    exact l1Own_run u _ w h (by rw [g1.2]; omega)
  have hcn : ∀ p, (clN n p).length ≤ 14 := fun p => Nat.le_trans (List.length_filter_le _ _) h14
  have hsu := fun k => mcJ_succ n (allL n) k
  have hjl : ∀ j, (mcJ n ((allL n).take j)).length ≤ 196 := by
    intro j
    refine Nat.le_trans (mcJ_le n hn _) ?_
    rw [List.length_take]
    omega
  have hfull : mcJ n (allL n) = mcJ n ((allL n).take (allL n).length) := by rw [List.take_length]
  rw [hfull]
  clear hfull
  generalize allL n = L at *
  have HAH := Lib.hid hah; have HCL := Lib.hid hcl; have HLO := Lib.hid hlo; have HCN := Lib.hid hcn; have HSU := Lib.hid hsu; have HJL := Lib.hid hjl
  clear hah hcl hlo hcn hsu hjl
  go_enter Try.func64, Try.ntmps64
  go_wp2_with (go_at_call 67; ((with_reducible refine (HAH.out _).mono ?_); rintro e w1 ⟨vu, us, rfl, hU, hb1⟩; obtain ⟨au, cu, rfl, hcu1, hcu2⟩ := hU.form; unfold maxLen at hcu2; have HU := Lib.hid hU; have HB1 := Lib.hid hb1; have hz1 := hb1.size; clear hb1 hU))
  go_loopw [3, 11] (fun o i wr => ∃ (j : Nat) (es : List (Value × Value)), j ≤ L.length ∧ i = .int .i64 (j : Int) ∧ OwnML w.heap.size wr o es (mcJ n (L.take j)) ∧ OwnLL w.heap.size w1.heap.size wr (.slice au L.length cu) us L ∧ Away o w.heap.size w1.heap.size ∧ w1.heap.size ≤ wr.heap.size ∧ Below w.heap.size w wr) (fun _ i _ => L.length - (intOf i).toNat)
  case atStart => exact ⟨0, [], by omega, rfl, OwnML.nil _ _, HU.out, fun k hk => by simp [Value.ownBlock] at hk, Nat.le_refl _, HB1.out⟩
  case round =>
    obtain ⟨j, es, hj, rfl, hown, hUj, haw, hwj, hbel⟩ := hrel
    clear HU HB1
    generalize wr = wb at *
    by_cases hjt : j < L.length
    · obtain ⟨gu, rfl, hgu0, hgu1, hcellu, _⟩ := hUj.at (by omega)
      have hcu3 := hcellu j hjt
      have hsuc := HSU.out j hjt
      have hcl := HCL.out j hjt
      have hlo := HLO.out j hjt
      have hcn := HCN.out (L.getD j [])
      have hjl := HJL.out j
      have hru := hUj.own j hjt
      generalize mcJ n (L.take j) = S at *
      generalize clN n (L.getD j []) = C at *
      generalize L.getD j [] = p at *
      generalize hpe : rowV us j = pu at *
      obtain ⟨p1, p2, p3, rfl⟩ := hru.form'
      have HO := Lib.hid hown; have HUJ := Lib.hid hUj; have HBE := Lib.hid hbel; have HSC := Lib.hid hsuc; have HC2 := Lib.hid hcl; have HL2 := Lib.hid hlo; have HRU := Lib.hid hru; have HPE := Lib.hid hpe; have HAW := Lib.hid haw
      have HOL := Lib.hid (hown.1.lt)
      have hszb := hbel.size
      clear hcellu hown hUj hbel hsuc hcl hlo hru hpe haw
      go_wp2_with (go_at_call 95; ((with_reducible refine (HC2.out _ _ HRU.out.rd).mono ?_); rintro e w2 ⟨vv, vvs, rfl, hV, hb2⟩; obtain ⟨av, cv, rfl, hcv1, hcv2⟩ := hV.form; unfold maxLen at hcv2; have HV := Lib.hid hV; have HO2 := Lib.hid (HO.out.below hb2); have HU2 := Lib.hid (HUJ.out.below hb2); have HR2 := Lib.hid (HRU.out.below hb2); have HB2 := Lib.hid (Below.step HBE.out hb2); have hz2 := hb2.size; clear hb2 hV))
      go_loopw [3, 18] (fun o i wr => ∃ (t : Nat) (es : List (Value × Value)), t ≤ C.length ∧ i = .int .i64 (t : Int) ∧ OwnML w.heap.size wr o es (S ++ (C.take t).map (fun q => (p, q))) ∧ OwnLL w.heap.size w1.heap.size wr (.slice (some ⟨gu, 0, none⟩) L.length cu) us L ∧ Own w.heap.size wr (.slice p1 p2 p3) p ∧ OwnLL wb.heap.size w2.heap.size wr (.slice av C.length cv) vvs C ∧ Away o w.heap.size w1.heap.size ∧ Away o wb.heap.size w2.heap.size ∧ w2.heap.size ≤ wr.heap.size ∧ Below w.heap.size w wr) (fun _ i _ => C.length - (intOf i).toNat)
      case atStart => exact ⟨0, es, by omega, rfl, by simpa using HO2.out, HU2.out, HR2.out, HV.out, HAW.out, fun k hk => by have := HOL.out k hk; omega, Nat.le_refl _, HB2.out⟩
      case round =>
        obtain ⟨t, es2, ht, rfl, hown, hUt, hRt, hVt, haw1, haw2, hwt, hbel⟩ := hrel
        clear HO2 HU2 HR2 HV HB2 HO HUJ HBE HRU
        generalize wr = wc at *
        by_cases htt : t < C.length
        · obtain ⟨gv, rfl, hgv0, hgv1, hcellv, _⟩ := hVt.at (by omega)
          have hcv3 := hcellv t htt
          have hrv := hVt.own t htt
          have hin := hVt.inr t htt
          have htk : S ++ (C.take (t + 1)).map (fun q => (p, q)) = (S ++ (C.take t).map (fun q => (p, q))) ++ [(p, C.getD t [])] := by
            rw [List.take_add_one, List.getElem?_eq_getElem htt, Option.toList_some, List.map_append, ← List.append_assoc]
            simp [List.getD, htt]
          have hln : (S ++ (C.take t).map (fun q => (p, q))).length ≤ 1000 := by rw [List.length_append, List.length_map, List.length_take]; omega
          generalize S ++ (C.take t).map (fun q => (p, q)) = R at *
          generalize C.getD t [] = q at *
          generalize hqe : rowV vvs t = qu at *
          obtain ⟨q1, q2, q3, rfl⟩ := hrv.form'
          have HTK := Lib.hid htk; have HO := Lib.hid hown; have HUT := Lib.hid hUt; have HRT := Lib.hid hRt; have HVT := Lib.hid hVt; have HBE := Lib.hid hbel; have HRV := Lib.hid hrv; have HIN := Lib.hid hin; have HA1 := Lib.hid haw1; have HA2 := Lib.hid haw2; have HLN := Lib.hid hln
          have hsz := hbel.size
          clear hcellv hown hUt hRt hVt hbel hrv hin htk haw1 haw2 hqe hln
          go_wp2_with (first
            | (go_at_call 68; ((with_reducible refine (HL2.out _ _ HRT.out.rd).mono ?_); rintro e w6 ⟨lv, rfl, hol, hb6⟩; have HAP : Hid (ApartV lv (.slice q1 q2 q3)) := (fun k hk hk' => by have h1 := (hol.lt k hk).1; have h2 := (HIN.out k hk').2; omega); obtain ⟨r1, r2, r3, rfl⟩ := hol.form'; have HOL6 := Lib.hid (hol.mono hsz); have HB6 := Lib.hid hb6; have hz6 := hb6.size; clear hb6 hol))
            | (at_builtin; refine wp_appendML _ rfl (.tmp 22) (.tmp 27) rfl w.heap.size w6.heap.size _ (.slice r1 r2 r3) (.slice q1 q2 q3) es2 R p q rfl rfl (cells_new w6 _ _ _).1 (cells_new w6 _ _ _).2 ((HO.out.below HB6.out).below (Below.alloc1 _ _)) (HOL6.out.below (Below.alloc1 _ _)) (((HRV.out.mono (B' := w.heap.size) hszb).below HB6.out).below (Below.alloc1 _ _)) HAP.out (by have := HLN.out; omega) (by simp; omega) ?_; intro o' w7 ho7 hg7 hb7 hw7; have HO7 := Lib.hid ho7; have B67 := Lib.hid (HB6.out.trans ((Below.alloc1 w6 (.cells #[.slice r1 r2 r3, .slice q1 q2 q3] 33)).mono hz6)); have HU7 := Lib.hid ((HUT.out.below B67.out).grown hg7 (fun k hk => HA1.out k hk)); have HV7 := Lib.hid ((HVT.out.below B67.out).grown hg7 (fun k hk => HA2.out k hk)); have HR7 := Lib.hid ((HRT.out.below B67.out).grown hg7 (fun k hk e => own_apartM (HRT.out.below B67.out) ((HO.out.below HB6.out).below (Below.alloc1 w6 (.cells #[.slice r1 r2 r3, .slice q1 q2 q3] 33))).1 k hk e)); have HA17 : Hid (Away o' w.heap.size w1.heap.size) := (fun k hk => by rcases hw7 k hk with h8 | h8; exact HA1.out k h8; have := (alloc_lt w6 (.cells #[.slice r1 r2 r3, .slice q1 q2 q3] 33)); exact .inr (by omega)); have HA27 : Hid (Away o' wb.heap.size w2.heap.size) := (fun k hk => by rcases hw7 k hk with h8 | h8; exact HA2.out k h8; have := (alloc_lt w6 (.cells #[.slice r1 r2 r3, .slice q1 q2 q3] 33)); exact .inr (by omega)); have hz7 : w2.heap.size ≤ w7.heap.size := Nat.le_trans hwt (Nat.le_trans B67.out.size hg7.size); have HB7 := Lib.hid ((HBE.out.trans (B67.out.mono hsz)).trans hb7); clear ho7 hg7 hb7 hw7))
          go_roundw
          case rel => exact ⟨t + 1, _, by omega, by go_num, by rw [HTK.out]; exact HO7.out, HU7.out, HR7.out, HV7.out, HA17.out, HA27.out, hz7, HB7.out⟩
          case measure => simp [intOf]; omega
        · obtain rfl : t = C.length := by omega
          rw [List.take_length, ← HSC.out] at hown
          have HO := Lib.hid hown; have HUT := Lib.hid hUt; have HA1 := Lib.hid haw1; have HBE := Lib.hid hbel
          clear hown hUt hRt hVt haw1 haw2 hbel
          go_wp2_with fail
          go_roundw
          case rel => exact ⟨j + 1, es2, by omega, by go_num, HO.out, HUT.out, HA1.out, by omega, HBE.out⟩
          case measure => simp [intOf]; omega
    · obtain rfl : j = L.length := by omega
      obtain ⟨a5, c5, rfl, _⟩ := hown.form
      have HO := Lib.hid hown; have HBE := Lib.hid hbel
      clear hown hUj hbel haw
      go_wp2_with fail
      go_ret
      exact ⟨_, _, rfl, HO.out, HBE.out⟩

def ok_CountMeanders (x : Int) : Bool := inB x 0 4
def res_CountMeanders (x : Int) : Int := if inB x 0 4 then ((mcJ x.toNat (allL x.toNat)).length : Int) else 0


/-- the meanders of the program's list of pairs -/
theorem amongN_any (n : Nat) (hn : n ≤ 4) (B : Nat) (w : World) (v : Value) (ho : OwnP B w v (pairsN n)) : Calls Try.prog 66 #[v] w (MadeP w (mcJ n (allL n))) := by
  rw [← among_pairsN]
  refine meandersAmong_any (pairsN n) (fun k hk => ?_) (Nat.le_trans (pairsN_len hn) (by omega)) B w v ho
  have hm := pairsN_mem (pairsN_at hk)
  have g1 := mem_good (by omega) hm.1
  have g2 := mem_good (by omega) hm.2
  exact ⟨g1.1, g2.1, by rw [g1.2, g2.2]⟩


end Go.Proofs.Ytaeeopdiodaiaab
