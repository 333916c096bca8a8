/- TableAt, ExponentTable, SumOfTable: program and model. -/
import Derived.Test.YtgaaddfipkdlaabTabE
namespace Go.Proofs.Ytgaaddfipkdlaab
open Go.RowKit
set_option linter.unusedSimpArgs false
set_option linter.unusedVariables false

def ok_TableAt (n x : Int) : Bool := asksB n x
def res_TableAt (n x : Int) : List (List Int) := if asksB n x = true then tabF (cX x) n.toNat else []
def ok_ExponentTable (n : Int) : Bool := inB n 0 4
def res_ExponentTable (n : Int) : List (List Int) := if inB n 0 4 = true then tabF cE n.toNat else []
def ok_SumOfTable (n x : Int) : Bool := asksB n x
def sumLL (ls : List (List Int)) : Int := (ls.map List.sum).sum
def res_SumOfTable (n x : Int) : Int := if asksB n x = true then sumLL (tabF (cX x) n.toNat) else 0
theorem tab_tot (F : List Int → List Int → Int) {n : Nat} (hn : n ≤ 4) : tot (tabF F n) ≤ 1000000 ∧ ∀ i, i < (tabF F n).length → ((tabF F n).getD i []).length ≤ 1000000 := by
  have h14 := allL_14 hn
  have h3 : ∀ i, i < (tabF F n).length → ((tabF F n).getD i []).length ≤ 14 := fun i hi => by rw [tab_rows i hi]; exact h14
  exact ⟨by have := tot_le h3; rw [tab_len] at this; have : (allL n).length * 14 ≤ 14 * 14 := Nat.mul_le_mul_right 14 h14; omega, fun i hi => by have := h3 i hi; omega⟩
theorem nil_tot : tot ([] : List (List Int)) ≤ 1000000 ∧ ∀ i, i < ([] : List (List Int)).length → (([] : List (List Int)).getD i []).length ≤ 1000000 := ⟨by simp [tot], fun i hi => by simp at hi⟩
theorem len_TableAt (n x : Int) : tot (res_TableAt n x) ≤ 1000000 ∧ ∀ i, i < (res_TableAt n x).length → ((res_TableAt n x).getD i []).length ≤ 1000000 := by
  unfold res_TableAt
  split
  · next h => have := asks_facts h; exact tab_tot _ (by omega)
  · exact nil_tot
theorem len_ExponentTable (n : Int) : tot (res_ExponentTable n) ≤ 1000000 ∧ ∀ i, i < (res_ExponentTable n).length → ((res_ExponentTable n).getD i []).length ≤ 1000000 := by
  unfold res_ExponentTable
  by_cases h : 0 ≤ n ∧ n ≤ 4
  · rw [inB_yes h.1 h.2]; exact tab_tot _ (by omega)
  · rw [inB_no h]; exact nil_tot
/-- sums of rows that are not great -/
def smB (ls : List (List Int)) : Prop := ls.length ≤ 14 ∧ (∀ k, k < ls.length → (ls.getD k []).length ≤ 14) ∧ ∀ k j, k < ls.length → j < (ls.getD k []).length → -81 ≤ (ls.getD k []).getD j 0 ∧ (ls.getD k []).getD j 0 ≤ 81
theorem take_sum (l : List Int) (c : Nat) (h : c < l.length) : (l.take (c + 1)).sum = (l.take c).sum + l.getD c 0 := by
  rw [List.take_add_one, List.getElem?_eq_getElem h, Option.toList_some, List.sum_append]; simp [List.getD, h]
theorem take_sumLL (ls : List (List Int)) (k : Nat) (h : k < ls.length) : sumLL (ls.take (k + 1)) = sumLL (ls.take k) + (ls.getD k []).sum := by
  unfold sumLL
  rw [List.take_add_one, List.getElem?_eq_getElem h, Option.toList_some, List.map_append, List.sum_append]; simp [List.getD, h]
theorem sum_bd (l : List Int) (h : ∀ j, j < l.length → -81 ≤ l.getD j 0 ∧ l.getD j 0 ≤ 81) : ∀ c, c ≤ l.length → -(81 * (c : Int)) ≤ (l.take c).sum ∧ (l.take c).sum ≤ 81 * (c : Int)
  | 0, _ => by simp
  | c + 1, hc => by
    have := sum_bd l h c (by omega)
    rw [take_sum l c (by omega)]
    have := h c (by omega)
    omega
theorem sumLL_bd {ls : List (List Int)} (h : smB ls) : ∀ k, k ≤ ls.length → -(1134 * (k : Int)) ≤ sumLL (ls.take k) ∧ sumLL (ls.take k) ≤ 1134 * (k : Int)
  | 0, _ => by simp [sumLL]
  | k + 1, hk => by
    have h1 := sumLL_bd h k (by omega)
    rw [take_sumLL ls k (by omega)]
    have h2 := sum_bd (ls.getD k []) (fun j hj => h.2.2 k j (by omega) hj) (ls.getD k []).length (Nat.le_refl _)
    have h3 := h.2.1 k (by omega)
    rw [List.take_length] at h2
    omega
theorem tabX_sm {n : Nat} {x : Int} (hn : n ≤ 4) (h1 : -3 ≤ x) (h2 : x ≤ 3) : smB (tabF (cX x) n) := by
  have h14 := allL_14 hn
  refine ⟨by rw [tab_len]; exact h14, fun k hk => by rw [tab_rows k hk]; exact h14, tab_bd hn (fun p hp q hq => ?_)⟩
  exact pow_bd h1 h2 (by have := comps_le hn hp hq; omega)
set_option maxHeartbeats 1000000 in
theorem impl_TableAt (n x : Int) (w : World) : Calls Try.prog 13 #[.int .i64 n, .int .i64 x] w (GivesLL w (res_TableAt n x) (ok_TableAt n x)) := by
  unfold res_TableAt ok_TableAt
  have ha := fun w => isTableOf_any n x w
  cases hb : asksB n x with
  | true =>
    rw [hb] at ha
    rw [if_pos rfl]
    obtain ⟨h1, h2, h3, h4, _⟩ := asks_facts hb
    obtain ⟨m, rfl⟩ := Int.eq_ofNat_of_zero_le h1
    have hp := fun w => powerTable_any m (by omega) x h3 h4 w
    rw [Int.toNat_natCast]
    have HA := Lib.hid ha; have HP := Lib.hid hp
    clear ha hp hb h1 h2 h3 h4
    generalize tabF (cX x) m = T at *
    go_enter Try.func13, Try.ntmps13
    go_wp2_with (first
      | (go_at_call 41; ((with_reducible refine (HA.out _).mono ?_); rintro e w1 ⟨rfl, rfl⟩))
      | (go_at_call 42; ((with_reducible refine (HP.out _).mono ?_); rintro e w2 ⟨v2, vs2, rfl, ho2, hb2⟩; obtain ⟨x2, z2, rfl, _⟩ := ho2.form; have HO := Lib.hid ho2; have HB := Lib.hid hb2; clear ho2 hb2)))
    go_ret2
    exact ⟨_, vs2, rfl, HO.out, HB.out⟩
  | false =>
    rw [hb] at ha
    rw [if_neg (by simp)]
    have HA := Lib.hid ha
    clear ha hb
    go_enter Try.func13, Try.ntmps13
    go_wp2_with (go_at_call 41; ((with_reducible refine (HA.out _).mono ?_); rintro e w1 ⟨rfl, rfl⟩))
    go_ret2
    exact ⟨_, [], rfl, OwnLL.nil _ _ (Nat.le_refl _), Below.refl _ _⟩
set_option maxHeartbeats 2000000 in
set_option maxRecDepth 100000 in
theorem impl_SumOfTable (n x : Int) (w : World) : Calls Try.prog 20 #[.int .i64 n, .int .i64 x] w (GivesN w (res_SumOfTable n x) (ok_SumOfTable n x)) := by
  unfold res_SumOfTable ok_SumOfTable
  have ha := fun w => isTableOf_any n x w
  cases hb : asksB n x with
  | true =>
    rw [hb] at ha
    rw [if_pos rfl]
    obtain ⟨h1, h2, h3, h4, _⟩ := asks_facts hb
    obtain ⟨m, rfl⟩ := Int.eq_ofNat_of_zero_le h1
    have hp := fun w => powerTable_any m (by omega) x h3 h4 w
    rw [Int.toNat_natCast]
    have hs := tabX_sm (n := m) (by omega) h3 h4
    have HA := Lib.hid ha; have HP := Lib.hid hp
    clear ha hp hb h1 h2 h3 h4
    generalize tabF (cX x) m = T at *
    have h14 := hs.1
    have HS := Lib.hid hs
    have HLB := Lib.hid (sumLL_bd hs)
    have HFULL : Hid (sumLL (T.take T.length) = sumLL T) := by show _ = _; rw [List.take_length]
    have HTS := Lib.hid (take_sumLL T)
    clear hs
    go_enter Try.func20, Try.ntmps20
    go_wp2_with (first
      | (go_at_call 41; ((with_reducible refine (HA.out _).mono ?_); rintro e w1 ⟨rfl, rfl⟩))
      | (go_at_call 42; ((with_reducible refine (HP.out _).mono ?_); rintro e w2 ⟨v2, vs2, rfl, ho2, hb2⟩; obtain ⟨x2, z2, rfl, hz1, hz2⟩ := ho2.form; unfold maxLen at hz2; have HO := Lib.hid ho2; have HB := Lib.hid hb2; clear ho2 hb2)))
    go_loop [6, 19] (fun s i => ∃ k : Nat, k ≤ T.length ∧ i = .int .i64 k ∧ s = .int .i64 (sumLL (T.take k))) (fun _ i => T.length - (intOf i).toNat)
    case atStart => exact ⟨0, by omega, rfl, by simp [sumLL]⟩
    case round =>
      obtain ⟨k, hk, rfl, rfl⟩ := hrel
      by_cases hlt : k < T.length
      · obtain ⟨g, rfl, _, _, hcell, _⟩ := HO.out.at (by omega)
        have hc := hcell k hlt
        have hrow := HO.out.own k hlt
        generalize hv : rowV vs2 k = rv at *
        obtain ⟨y1, y2, y3, rfl⟩ := hrow.form'
        have hyl : y2 = (T.getD k []).length := by obtain ⟨a, c, e, _⟩ := hrow.form; simp at e; exact e.2.1
        have h2 := HS.out.2.1 k hlt
        have hbd := HLB.out k hk
        have hts := HTS.out k hlt
        have hsb := sum_bd (T.getD k []) (fun j hj => HS.out.2.2 k j hlt hj)
        have htk := take_sum (T.getD k [])
        have hel := fun j hj => HS.out.2.2 k j hlt hj
        have HR := Lib.hid hrow; have HTK := Lib.hid htk; have HSB := Lib.hid hsb; have HTS2 := Lib.hid hts; have HEL := Lib.hid hel
        generalize sumLL (T.take k) = s0 at *
        have HFR : Hid (((T.getD k []).take (T.getD k []).length).sum = (T.getD k []).sum) := by show _ = _; rw [List.take_length]
        generalize T.getD k [] = l at *
        subst hyl
        clear hcell hrow htk hsb hts hel hv
        go_wp2_with fail
        go_loop [6, 25] (fun s i => ∃ c : Nat, c ≤ l.length ∧ i = .int .i64 c ∧ s = .int .i64 (s0 + (l.take c).sum)) (fun _ i => l.length - (intOf i).toNat)
        case atStart => exact ⟨0, by omega, rfl, by simp⟩
        case round =>
          obtain ⟨c, hcl, rfl, rfl⟩ := hrel
          by_cases hclt : c < l.length
          · obtain ⟨gr, rfl, hr1, hr2, hr3⟩ : ∃ gr, y1 = some ⟨gr, 0, none⟩ ∧ l.length ≤ y3 ∧ y3 ≤ maxLen ∧ w2.cell? ⟨gr, c, none⟩ = some (.int .i64 (l.getD c 0)) := by
              rcases HR.out.shape with ⟨_, h0⟩ | ⟨g, cc, hv, _, _, q1, q2⟩
              · rw [h0] at hclt; simp at hclt
              · have e := hv; simp only [Value.slice.injEq] at e
                obtain ⟨rfl, _, rfl⟩ := e
                exact ⟨g, rfl, q1, q2, HR.out.cellAt c hclt⟩
            unfold maxLen at hr2
            have e1 := HSB.out c hcl
            have e2 := HEL.out c hclt
            have HT2 := Lib.hid (HTK.out c hclt)
            generalize (l.take c).sum = s1 at *
            generalize l.getD c 0 = y at *
            go_wp2_with fail
            go_round
            case rel => exact ⟨c + 1, by omega, by go_num, by rw [HT2.out]; go_num⟩
            case measure => simp [intOf]; omega
          · obtain rfl : c = l.length := by omega
            rw [HFR.out]
            go_wp2_with fail
            go_round
            case rel => exact ⟨k + 1, by omega, by go_num, by rw [HTS2.out]⟩
            case measure => simp [intOf]; omega
      · obtain rfl : k = T.length := by omega
        rw [HFULL.out]
        go_wp2_with fail
        go_ret2
        exact ⟨rfl, HB.out⟩
  | false =>
    rw [hb] at ha
    rw [if_neg (by simp)]
    have HA := Lib.hid ha
    clear ha hb
    go_enter Try.func20, Try.ntmps20
    go_wp2_with (go_at_call 41; ((with_reducible refine (HA.out _).mono ?_); rintro e w1 ⟨rfl, rfl⟩))
    go_ret2
    exact ⟨rfl, Below.refl _ _⟩
set_option maxHeartbeats 1000000 in
theorem impl_ExponentTable (n : Int) (w : World) : Calls Try.prog 18 #[.int .i64 n] w (GivesLL w (res_ExponentTable n) (ok_ExponentTable n)) := by
  unfold res_ExponentTable ok_ExponentTable
  have ha := fun w => isTableSize_any n w
  by_cases h : 0 ≤ n ∧ n ≤ 4
  · rw [inB_yes h.1 h.2] at ha ⊢
    rw [if_pos rfl]
    obtain ⟨m, rfl⟩ := Int.eq_ofNat_of_zero_le h.1
    have hp := fun w => allPairs_any m (by omega) w
    have he := fun w lo hi v vs ho => expTable_any m (by omega) w lo hi v vs ho
    rw [Int.toNat_natCast]
    have HA := Lib.hid ha; have HP := Lib.hid hp; have HE := Lib.hid he
    clear ha hp h he
    generalize tabF cE m = T at *
    go_enter Try.func18, Try.ntmps18
    go_wp2_with (first
      | (go_at_call 44; ((with_reducible refine (HA.out _).mono ?_); rintro e w1 ⟨rfl, rfl⟩))
      | (go_at_call 46; ((with_reducible refine (HP.out _).mono ?_); rintro e w1 ⟨v1, vs1, rfl, ho1, hb1⟩; have HO1 := Lib.hid ho1; have HB1 := Lib.hid hb1; obtain ⟨a1, c1, rfl, _⟩ := ho1.form; clear ho1 hb1))
      | (go_at_call 45; ((refine (HE.out _ _ _ _ vs1 HO1.out).mono ?_); rintro e w2 ⟨v2, vs2, rfl, ho2, hb2⟩; obtain ⟨x2, z2, rfl, _⟩ := ho2.form; have HO2 := Lib.hid ho2; have HB2 := Lib.hid (Below.step HB1.out hb2); have HZ := Lib.hid HB1.out.size; clear ho2 hb2)))
    go_ret2
    exact ⟨_, vs2, rfl, HO2.out.mono HZ.out (Nat.le_refl _) (Nat.le_refl _), HB2.out⟩
  · rw [inB_no h] at ha ⊢
    rw [if_neg (by simp)]
    have HA := Lib.hid ha
    clear ha h
    go_enter Try.func18, Try.ntmps18
    go_wp2_with (go_at_call 44; ((with_reducible refine (HA.out _).mono ?_); rintro e w1 ⟨rfl, rfl⟩))
    go_ret2
    exact ⟨_, [], rfl, OwnLL.nil _ _ (Nat.le_refl _), Below.refl _ _⟩
set_option maxRecDepth 100000 in
set_option maxHeartbeats 4000000 in
theorem taExponents_any (n : Nat) (hn : n ≤ 4) (w : World) : Calls Try.prog 43 #[.int .i64 (n : Int)] w (MadeLL w (tabF cE n)) := by
  have hah : ∀ w, Calls Try.prog 70 #[.int .i64 (n : Int), .int .i64 0] w (MadeLL w (allL n)) := fun w => ahAll_any 7 n 0 w (by omega) (by omega) (by omega) (by omega)
  have h14 := allL_14 hn
  have hmc : ∀ j i, j < (allL n).length → i < (allL n).length → ∀ w u1 u2, Rd w u1 ((allL n).getD j []) → Rd w u2 ((allL n).getD i []) → Calls Try.prog 71 #[.agg #[u1, u2]] w fun e w' => e = .returned (.int .i64 (cE ((allL n).getD j []) ((allL n).getD i []))) ∧ Below w.heap.size w w' := by
    intro j i hj hi w u1 u2 h1 h2
    have g1 := mem_good (n := n) (by omega) (allL_mem hj)
    have g2 := mem_good (n := n) (by omega) (allL_mem hi)
    exact meCount_any _ _ g1.1 g2.1 (by rw [g1.2, g2.2]) w u1 u2 h1 h2
  have htab : tabF cE n = ((allL n).take (allL n).length).map (fun p => (allL n).map (fun q => cE p q)) := by rw [List.take_length]; rfl
  rw [htab]
  generalize allL n = L at *
  have HT1 : Hid (∀ k, k < L.length → (L.take (k + 1)).map (fun p => L.map (fun q => cE p q)) = (L.take k).map (fun p => L.map (fun q => cE p q)) ++ [L.map (fun q => cE (L.getD k []) q)]) := fun k hk => by
    rw [List.take_add_one, List.getElem?_eq_getElem hk, Option.toList_some, List.map_append]; simp [List.getD, hk]
  have HL1 : Hid (∀ k, ((L.take k).map (fun p => L.map (fun q => cE p q))).length ≤ 14) := fun k => by rw [List.length_map, List.length_take]; omega
  have HT2 : Hid (∀ p c, c < L.length → (L.take (c + 1)).map (fun q => cE p q) = (L.take c).map (fun q => cE p q) ++ [cE p (L.getD c [])]) := fun p c hc => by
    rw [List.take_add_one, List.getElem?_eq_getElem hc, Option.toList_some, List.map_append]; simp [List.getD, hc]
  have HL2 : Hid (∀ p c, ((L.take c).map (fun q => cE p q)).length ≤ 14) := fun p c => by rw [List.length_map, List.length_take]; omega
  have HF2 : Hid (∀ p, (L.take L.length).map (fun q => cE p q) = L.map (fun q => cE p q)) := fun p => by rw [List.take_length]
  have HAH := Lib.hid hah; have HMC := Lib.hid hmc
  clear hah hmc htab
  go_enter Try.func43, Try.ntmps43
  go_wp2_with (go_at_call 70; ((with_reducible refine (HAH.out _).mono ?_); rintro e w2 ⟨vu, us, rfl, hU, hb2⟩; obtain ⟨au, cu, rfl, hcu1, hcu2⟩ := hU.form; unfold maxLen at hcu2; have HU := Lib.hid hU; have HB2 := Lib.hid hb2; clear hb2 hU))
  go_loopw [4, 14] (fun o i wr => ∃ (k : Nat) (vs : List Value), k ≤ L.length ∧ i = .int .i64 (k : Int) ∧ Hid (OwnLL w2.heap.size wr.heap.size wr o vs ((L.take k).map (fun p => L.map (fun q => cE p q)))) ∧ Hid (Below w2.heap.size w2 wr)) (fun _ i _ => L.length - (intOf i).toNat)
  case atStart => exact ⟨0, [], by omega, rfl, Lib.hid (OwnLL.nil _ _ (Nat.le_refl _)), Lib.hid (Below.refl _ _)⟩
  case round =>
    obtain ⟨k, vs, hk, rfl, HO, HBE⟩ := hrel
    generalize wr = wb at *
    by_cases hlt : k < L.length
    · have hU := HU.out.below HBE.out
      obtain ⟨gu, rfl, _, _, hcellu, _⟩ := hU.at (by omega)
      have hck := hcellu k hlt
      have hru := fun W (hb : Below w2.heap.size w2 W) => (HU.out.below hb).own k hlt
      generalize hpe : rowV us k = pu at *
      obtain ⟨p1, p2, p3, rfl⟩ := (hru wb HBE.out).form'
      have HRU := Lib.hid hru
      have HMK := Lib.hid (fun i hi => HMC.out k i hlt hi)
      have HS1 := Lib.hid (HT1.out k hlt)
      have HLK := Lib.hid (HL1.out k)
      generalize (L.take k).map (fun p => L.map (fun q => cE p q)) = S at *
      generalize L.getD k [] = pp at *
      have HS2 := Lib.hid (HT2.out pp); have HLL := Lib.hid (HL2.out pp); have HFF := Lib.hid (HF2.out pp)
      have hsz := HBE.out.size
      clear hU hcellu hru hpe
      go_wp2_with fail
      go_loopw [7, 20] (fun o i wr => ∃ c : Nat, c ≤ L.length ∧ i = .int .i64 (c : Int) ∧ Hid (Own wb.heap.size wr o ((L.take c).map (fun q => cE pp q))) ∧ Hid (Below wb.heap.size wb wr)) (fun _ i _ => L.length - (intOf i).toNat)
      case atStart => exact ⟨0, by omega, rfl, Lib.hid (Own.nil _ _), Lib.hid (Below.refl _ _)⟩
      case round =>
        obtain ⟨c, hc, rfl, HR, HBR⟩ := hrel
        generalize wr = wc at *
        by_cases hcl : c < L.length
        · have hbw := Below.step HBE.out HBR.out
          have hU := HU.out.below hbw
          have hcc : wc.cell? ⟨gu, c, none⟩ = some (rowV us c) := by
            obtain ⟨g2, hg2, _, _, h4, _⟩ := hU.at (by omega)
            have e : gu = g2 := by simpa using hg2
            subst e; exact h4 c hcl
          have hrv := hU.own c hcl
          generalize hqe : rowV us c = qu at *
          obtain ⟨q1, q2, q3, rfl⟩ := hrv.form'
          have HRV := Lib.hid hrv
          have HRK := Lib.hid (HRU.out wc hbw)
          have HMK2 := Lib.hid (HMK.out c hcl)
          have HS3 := Lib.hid (HS2.out c hcl)
          have HLC := Lib.hid (HLL.out c)
          generalize (L.take c).map (fun q => cE pp q) = R at *
          generalize cE pp (L.getD c []) = y at *
          have hszr := HBR.out.size
          clear hU hrv hqe hbw
          go_wp2_with (first
            | (go_at_call 71; ((with_reducible refine (HMK2.out _ _ _ HRK.out.rd HRV.out.rd).mono ?_); rintro e w6 ⟨rfl, hb6⟩; have HB6 := Lib.hid (Below.step HBR.out hb6); have HR6 := Lib.hid (HR.out.below hb6); clear hb6))
            | (at_builtin; refine wp_append _ rfl _ _ rfl wb.heap.size _ _ R [y] rfl rfl (Own.below HR6.out (Below.alloc1 _ _)) (Own.rd (Own.lit1 _ _ _ (Nat.le_refl _))) (by have := HLC.out; simp only [List.length_cons, List.length_nil]; omega) (by have := HB6.out.size; simp; omega) ?_; intro v7 w7 ho7 hg7 hb7; have HO7 := Lib.hid ho7; have HB7 := Lib.hid ((HB6.out.alloc HB6.out.size _).trans hb7); clear ho7 hg7 hb7))
          go_roundw
          case rel => exact ⟨c + 1, by omega, by go_num, by rw [HS3.out]; exact HO7, HB7⟩
          case measure => simp [intOf]; omega
        · obtain rfl : c = L.length := by omega
          have HX := HR
          rw [HFF.out] at HX
          obtain ⟨x1, y1, z1, rfl⟩ := HX.out.form'
          generalize L.map (fun q => cE pp q) = RR at *
          go_wp2_with (at_builtin; refine wp_appendLL _ rfl _ _ rfl w2.heap.size wb.heap.size wb.heap.size wc.heap.size _ (.slice x1 y1 z1) vs S RR rfl rfl (cell_lit1 wc (.slice x1 y1 z1) _) (OwnLL.below HO.out (HBR.out.alloc HBR.out.size _)) (HX.out.below (Below.alloc1 _ _)) (Nat.le_refl _) hsz (by have := HLK.out; omega) (by have := HBR.out.size; simp; omega) ?_; intro o7 w7 ho7 hg7 hb7 hw7; have HO7 := Lib.hid ho7; have HB7 := Lib.hid (((Below.step HBE.out HBR.out).alloc (Below.step HBE.out HBR.out).size _).trans hb7); clear ho7 hg7 hb7 hw7)
          go_roundw
          case rel => exact ⟨k + 1, _, by omega, by go_num, by rw [HS1.out]; exact HO7, HB7⟩
          case measure => simp [intOf]; omega
    · obtain rfl : k = L.length := by omega
      obtain ⟨a5, c5, rfl, _⟩ := HO.out.form
      go_wp2_with fail
      go_ret
      exact ⟨_, _, rfl, HO.out.mono HB2.out.size (Nat.le_refl _) (Nat.le_refl _), Below.step HB2.out HBE.out⟩
end Go.Proofs.Ytgaaddfipkdlaab
