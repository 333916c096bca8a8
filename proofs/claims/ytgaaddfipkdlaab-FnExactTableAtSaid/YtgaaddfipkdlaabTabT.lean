/- The model's table in place; its three laws. -/
import Derived.Test.YtgaaddfipkdlaabTabL
namespace Go.Proofs.Ytgaaddfipkdlaab
open Go.RowKit
set_option linter.unusedSimpArgs false
set_option linter.unusedVariables false

def mixR (x : Int) (L : List (List Int)) (p : List Int) (c : Nat) : List Int := (L.take c).map (fun q => cX x p q) ++ (L.drop c).map (fun q => cE p q)
def mixT (x : Int) (L : List (List Int)) (k : Nat) : List (List Int) := (L.take k).map (fun p => L.map (fun q => cX x p q)) ++ (L.drop k).map (fun p => L.map (fun q => cE p q))
theorem mixR_zero (x : Int) (L : List (List Int)) (p : List Int) : mixR x L p 0 = L.map (fun q => cE p q) := by simp [mixR]
theorem mixR_all (x : Int) (L : List (List Int)) (p : List Int) : mixR x L p L.length = L.map (fun q => cX x p q) := by simp [mixR]
theorem mixR_len (x : Int) (L : List (List Int)) (p : List Int) (c : Nat) : (mixR x L p c).length = L.length := by simp [mixR]; omega
theorem mixR_get (x : Int) (L : List (List Int)) (p : List Int) {c : Nat} (h : c < L.length) : (mixR x L p c).getD c 0 = cE p (L.getD c []) := by
  unfold mixR
  rw [List.getD_eq_getElem?_getD, List.getElem?_append_right (by simp; omega)]
  simp [List.getD, h, Nat.min_eq_left (Nat.le_of_lt h)]
theorem mixR_set (x : Int) (L : List (List Int)) (p : List Int) {c : Nat} (h : c < L.length) : (mixR x L p c).set c (cX x p (L.getD c [])) = mixR x L p (c + 1) := by
  unfold mixR
  rw [List.set_append_right _ _ (by simp; omega), List.drop_eq_getElem_cons h, List.map_cons]
  simp only [List.length_map, List.length_take, Nat.min_eq_left (Nat.le_of_lt h), Nat.sub_self, List.set_cons_zero]
  rw [List.take_add_one, List.getElem?_eq_getElem h, Option.toList_some, List.map_append, List.append_assoc]
  simp [List.getD, h]
theorem mixT_zero (x : Int) (L : List (List Int)) : mixT x L 0 = L.map (fun p => L.map (fun q => cE p q)) := by simp [mixT]
theorem mixT_all (x : Int) (L : List (List Int)) : mixT x L L.length = L.map (fun p => L.map (fun q => cX x p q)) := by simp [mixT]
theorem mixT_len (x : Int) (L : List (List Int)) (c : Nat) : (mixT x L c).length = L.length := by simp [mixT]; omega
theorem mixT_get (x : Int) (L : List (List Int)) {c : Nat} (h : c < L.length) : (mixT x L c).getD c [] = L.map (fun q => cE (L.getD c []) q) := by
  unfold mixT
  rw [List.getD_eq_getElem?_getD, List.getElem?_append_right (by simp; omega)]
  simp [List.getD, h, Nat.min_eq_left (Nat.le_of_lt h)]
theorem mixT_set (x : Int) (L : List (List Int)) {c : Nat} (h : c < L.length) : (mixT x L c).set c (L.map (fun q => cX x (L.getD c []) q)) = mixT x L (c + 1) := by
  unfold mixT
  rw [List.set_append_right _ _ (by simp; omega), List.drop_eq_getElem_cons h, List.map_cons]
  simp only [List.length_map, List.length_take, Nat.min_eq_left (Nat.le_of_lt h), Nat.sub_self, List.set_cons_zero]
  rw [List.take_add_one, List.getElem?_eq_getElem h, Option.toList_some, List.map_append, List.append_assoc]
  simp [List.getD, h]
theorem set_same {B : List (List Int)} {k : Nat} (h : k < B.length) : B.set k (B.getD k []) = B := by
  apply List.ext_getElem?
  intro i
  rw [List.getElem?_set]
  split
  · next e => subst e; simp [h, List.getD]
  · rfl
set_option maxRecDepth 100000 in
set_option maxHeartbeats 4000000 in
theorem taTable_any (n : Nat) (hn : n ≤ 4) (x : Int) (h1 : -3 ≤ x) (h2 : x ≤ 3) (w : World) : Calls Try.prog 40 #[.int .i64 (n : Int), .int .i64 x] w (MadeLL w (tabF (cX x) n)) := by
  have hex := fun w => taExponents_any n hn w
  have h14 := allL_14 hn
  have hpw : ∀ k c, k < (allL n).length → c < (allL n).length → ∀ w, Calls Try.prog 67 #[.int .i64 x, .int .i64 (cE ((allL n).getD k []) ((allL n).getD c []))] w (IntOut w (cX x ((allL n).getD k []) ((allL n).getD c []))) := by
    intro k c hk hc w
    have hcl := Nat.le_trans (comps_le hn (allL_mem hk) (allL_mem hc)) hn
    exact taPower_any x _ w (by omega) (fun i hi => by have := pow_bd h1 h2 (i := i) (by omega); omega)
  have e1 : tabF cE n = mixT x (allL n) 0 := by rw [mixT_zero]; rfl
  have e2 : tabF (cX x) n = mixT x (allL n) (allL n).length := by rw [mixT_all]; rfl
  rw [e2]
  simp only [e1] at hex
  generalize allL n = L at *
  have HEX := Lib.hid hex; have HPW := Lib.hid hpw
  have HTL := Lib.hid (mixT_len x L); have HTG := Lib.hid (fun k (hk : k < L.length) => mixT_get x L hk); have HTS := Lib.hid (fun k (hk : k < L.length) => mixT_set x L hk)
  clear hex hpw e1 e2 h1 h2
  go_enter Try.func40, Try.ntmps40
  go_wp2_with (go_at_call 43; ((with_reducible refine (HEX.out _).mono ?_); rintro e w1 ⟨v1, vs, rfl, ho1, hb1⟩; obtain ⟨a1, c1, hv1, hz1, hz2⟩ := ho1.form; rw [HTL.out] at hv1 hz1; subst hv1; unfold maxLen at hz2; have HO1 := Lib.hid ho1; have HB1 := Lib.hid hb1; clear ho1 hb1))
  have HVL : Hid (vs.length = L.length) := by show _ = _; rw [HO1.out.len, HTL.out]
  go_loopw [14] (fun i wr => ∃ k : Nat, k ≤ L.length ∧ i = .int .i64 (k : Int) ∧ Hid (OwnLL w.heap.size w1.heap.size wr (.slice a1 L.length c1) vs (mixT x L k)) ∧ Hid (Below w.heap.size w wr)) (fun i _ => L.length - (intOf i).toNat)
  case atStart => exact ⟨0, by omega, rfl, HO1, HB1⟩
  case round =>
    clear HO1
    obtain ⟨k, hk, rfl, HO, HBE⟩ := hrel
    generalize wr = wb at *
    by_cases hlt : k < L.length
    · obtain ⟨g, rfl, hg0, _, hcell, _⟩ := HO.out.at (by rw [HTL.out]; omega)
      have hck := hcell k (by rw [HTL.out]; exact hlt)
      have hrow := HO.out.own k (by rw [HTL.out]; exact hlt)
      rw [HTG.out k hlt, ← mixR_zero x] at hrow
      have hset := set_same (B := mixT x L k) (k := k) (by rw [HTL.out]; exact hlt)
      rw [HTG.out k hlt, ← mixR_zero x] at hset
      have hO2 := HO.out
      rw [← hset] at hO2
      have HPK := Lib.hid (fun c hc => HPW.out k c hlt hc)
      have HTN := Lib.hid (HTS.out k hlt)
      have HKB : Hid (k < (mixT x L k).length) := by show _ < _; rw [HTL.out]; exact hlt
      generalize mixT x L k = BB at *
      generalize L.getD k [] = p at *
      rw [← mixR_all x] at HTN
      have HRL := Lib.hid (mixR_len x L p); have HRG := Lib.hid (fun c (hc : c < L.length) => mixR_get x L p hc); have HRS := Lib.hid (fun c (hc : c < L.length) => mixR_set x L p hc)
      obtain ⟨g1, m1, hv, hm1, hm2⟩ : ∃ g1 c, rowV vs k = .slice (some ⟨g1, 0, none⟩) L.length c ∧ L.length ≤ c ∧ c ≤ maxLen := by
        rcases hrow.shape with ⟨_, h0⟩ | ⟨g, c, hv, _, _, q1, q2⟩
        · have := HRL.out 0; rw [h0] at this; simp at this; omega
        · rw [HRL.out] at hv q1
          exact ⟨g, c, hv, q1, q2⟩
      have hgl : w.heap.size ≤ g1 := by rw [hv] at hrow; exact (hrow.lt g1 rfl).1
      have HGL := Lib.hid hgl
      unfold maxLen at hm2
      rw [hv] at hck
      have HV := Lib.hid hv; have HO2 := Lib.hid hO2
      clear hrow hset hcell hO2 hv hgl hg0
      go_wp2_with fail
      go_loopw [20] (fun i wr => ∃ c : Nat, c ≤ L.length ∧ i = .int .i64 (c : Int) ∧ Hid (OwnLL w.heap.size w1.heap.size wr (.slice (some ⟨g, 0, none⟩) L.length c1) vs (BB.set k (mixR x L p c))) ∧ Hid (Below w.heap.size w wr)) (fun i _ => L.length - (intOf i).toNat)
      case atStart => exact ⟨0, by omega, rfl, HO2, HBE⟩
      case round =>
        clear HO HO2 HBE hck
        obtain ⟨c, hc, rfl, HOC, HBC⟩ := hrel
        generalize wr = wc at *
        by_cases hcl : c < L.length
        · have hrc := HOC.out.own k (by rw [List.length_set]; exact HKB.out)
          rw [HV.out, getD_setL_eq HKB.out] at hrc
          have hcc := hrc.cellAt c (by rw [HRL.out]; exact hcl)
          have hfr := hrc.frozenAt c
          rw [HRG.out c hcl] at hcc
          have HPC := Lib.hid (HPK.out c hcl)
          have hput := OwnLL.put HOC.out HKB.out HV.out c (cX x p (L.getD c []))
          rw [HRS.out c hcl] at hput
          have HPUT := Lib.hid hput
          generalize cX x p (L.getD c []) = y at *
          generalize cE p (L.getD c []) = z at *
          have HBS := Lib.hid (HBC.out.setCell (p := ⟨g1, c, none⟩) HGL.out (.int .i64 y))
          clear hrc hput
          go_wp2_with (go_at_call 67; ((with_reducible refine (HPC.out _).mono ?_); rintro e w6 ⟨rfl, rfl⟩))
          go_roundw
          case rel => exact ⟨c + 1, by omega, by go_num, HPUT, HBS⟩
          case measure => simp [intOf]; omega
        · obtain rfl : c = L.length := by omega
          have HX := HOC
          rw [HTN.out] at HX
          go_wp2_with fail
          go_roundw
          case rel => exact ⟨k + 1, by omega, by go_num, HX, HBC⟩
          case measure => simp [intOf]; omega
    · obtain rfl : k = L.length := by omega
      go_wp2_with fail
      go_ret
      exact ⟨_, vs, rfl, HO.out.mono (Nat.le_refl _) (by have := HO.out.ends; exact this) (Nat.le_refl _), HBE.out⟩
set_option maxHeartbeats 1000000 in
theorem spec_TableAt (n x : Int) (w : World) : Calls Try.prog 12 #[.int .i64 n, .int .i64 x] w (GivesLL w (res_TableAt n x) (ok_TableAt n x)) := by
  unfold res_TableAt ok_TableAt
  have ha := fun w => taAsked_any n x w
  cases hb : asksB n x with
  | true =>
    rw [hb] at ha
    rw [if_pos rfl]
    obtain ⟨h1, h2, h3, h4, _⟩ := asks_facts hb
    obtain ⟨m, rfl⟩ := Int.eq_ofNat_of_zero_le h1
    have hp := fun w => taTable_any m (by omega) x h3 h4 w
    rw [Int.toNat_natCast]
    have HA := Lib.hid ha; have HP := Lib.hid hp
    clear ha hp hb h1 h2 h3 h4
    generalize tabF (cX x) m = T at *
    go_enter Try.func12, Try.ntmps12
    go_wp2_with (first
      | (go_at_call 39; ((with_reducible refine (HA.out _).mono ?_); rintro e w1 ⟨rfl, rfl⟩))
      | (go_at_call 40; ((with_reducible refine (HP.out _).mono ?_); rintro e w2 ⟨v2, vs2, rfl, ho2, hb2⟩; obtain ⟨x2, z2, rfl, _⟩ := ho2.form; have HO := Lib.hid ho2; have HB := Lib.hid hb2; clear ho2 hb2)))
    go_ret2
    exact ⟨_, vs2, rfl, HO.out, HB.out⟩
  | false =>
    rw [hb] at ha
    rw [if_neg (by simp)]
    have HA := Lib.hid ha
    clear ha hb
    go_enter Try.func12, Try.ntmps12
    go_wp2_with (go_at_call 39; ((with_reducible refine (HA.out _).mono ?_); rintro e w1 ⟨rfl, rfl⟩))
    go_ret2
    exact ⟨_, [], rfl, OwnLL.nil _ _ (Nat.le_refl _), Below.refl _ _⟩
set_option maxHeartbeats 2000000 in
set_option maxRecDepth 100000 in
theorem spec_SumOfTable (n x : Int) (w : World) : Calls Try.prog 19 #[.int .i64 n, .int .i64 x] w (GivesN w (res_SumOfTable n x) (ok_SumOfTable n x)) := by
  unfold res_SumOfTable ok_SumOfTable
  have ha := fun w => taAsked_any n x w
  cases hb : asksB n x with
  | true =>
    rw [hb] at ha
    rw [if_pos rfl]
    obtain ⟨h1, h2, h3, h4, _⟩ := asks_facts hb
    obtain ⟨m, rfl⟩ := Int.eq_ofNat_of_zero_le h1
    have hp := fun w => taTable_any m (by omega) x h3 h4 w
    rw [Int.toNat_natCast]
    have hs := tabX_sm (n := m) (by omega) h3 h4
    have HA := Lib.hid ha; have HP := Lib.hid hp
    clear ha hp hb h1 h2 h3 h4
    generalize tabF (cX x) m = T at *
    have h14 := hs.1
    have HS := Lib.hid hs
    have HLB := Lib.hid (sumLL_bd hs)
    have HFULL : Hid (sumLL (T.take T.length) = sumLL T) := by show _ = _; rw [List.take_length]
    have HTS := Lib.hid (take_sumLL T)
    clear hs
    go_enter Try.func19, Try.ntmps19
    go_wp2_with (first
      | (go_at_call 39; ((with_reducible refine (HA.out _).mono ?_); rintro e w1 ⟨rfl, rfl⟩))
      | (go_at_call 40; ((with_reducible refine (HP.out _).mono ?_); rintro e w2 ⟨v2, vs2, rfl, ho2, hb2⟩; obtain ⟨x2, z2, rfl, hz1, hz2⟩ := ho2.form; unfold maxLen at hz2; have HO := Lib.hid ho2; have HB := Lib.hid hb2; clear ho2 hb2)))
    go_loop [6, 19] (fun s i => ∃ k : Nat, k ≤ T.length ∧ i = .int .i64 k ∧ s = .int .i64 (sumLL (T.take k))) (fun _ i => T.length - (intOf i).toNat)
    case atStart => exact ⟨0, by omega, rfl, by simp [sumLL]⟩
    case round =>
      obtain ⟨k, hk, rfl, rfl⟩ := hrel
      by_cases hlt : k < T.length
      · obtain ⟨g, rfl, _, _, hcell, _⟩ := HO.out.at (by omega)
        have hc := hcell k hlt
        have hrow := HO.out.own k hlt
        generalize hv : rowV vs2 k = rv at *
        obtain ⟨y1, y2, y3, rfl⟩ := hrow.form'
        have hyl : y2 = (T.getD k []).length := by obtain ⟨a, c, e, _⟩ := hrow.form; simp at e; exact e.2.1
        have h2 := HS.out.2.1 k hlt
        have hbd := HLB.out k hk
        have hts := HTS.out k hlt
        have hsb := sum_bd (T.getD k []) (fun j hj => HS.out.2.2 k j hlt hj)
        have htk := take_sum (T.getD k [])
        have hel := fun j hj => HS.out.2.2 k j hlt hj
        have HR := Lib.hid hrow; have HTK := Lib.hid htk; have HSB := Lib.hid hsb; have HTS2 := Lib.hid hts; have HEL := Lib.hid hel
        generalize sumLL (T.take k) = s0 at *
        have HFR : Hid (((T.getD k []).take (T.getD k []).length).sum = (T.getD k []).sum) := by show _ = _; rw [List.take_length]
        generalize T.getD k [] = l at *
        subst hyl
        clear hcell hrow htk hsb hts hel hv
        go_wp2_with fail
        go_loop [6, 25] (fun s i => ∃ c : Nat, c ≤ l.length ∧ i = .int .i64 c ∧ s = .int .i64 (s0 + (l.take c).sum)) (fun _ i => l.length - (intOf i).toNat)
        case atStart => exact ⟨0, by omega, rfl, by simp⟩
        case round =>
          obtain ⟨c, hcl, rfl, rfl⟩ := hrel
          by_cases hclt : c < l.length
          · obtain ⟨gr, rfl, hr1, hr2, hr3⟩ : ∃ gr, y1 = some ⟨gr, 0, none⟩ ∧ l.length ≤ y3 ∧ y3 ≤ maxLen ∧ w2.cell? ⟨gr, c, none⟩ = some (.int .i64 (l.getD c 0)) := by
              rcases HR.out.shape with ⟨_, h0⟩ | ⟨g, cc, hv, _, _, q1, q2⟩
              · rw [h0] at hclt; simp at hclt
              · have e := hv; simp only [Value.slice.injEq] at e
                obtain ⟨rfl, _, rfl⟩ := e
                exact ⟨g, rfl, q1, q2, HR.out.cellAt c hclt⟩
            unfold maxLen at hr2
            have e1 := HSB.out c hcl
            have e2 := HEL.out c hclt
            have HT2 := Lib.hid (HTK.out c hclt)
            generalize (l.take c).sum = s1 at *
            generalize l.getD c 0 = y at *
            go_wp2_with fail
            go_round
            case rel => exact ⟨c + 1, by omega, by go_num, by rw [HT2.out]; go_num⟩
            case measure => simp [intOf]; omega
          · obtain rfl : c = l.length := by omega
            rw [HFR.out]
            go_wp2_with fail
            go_round
            case rel => exact ⟨k + 1, by omega, by go_num, by rw [HTS2.out]⟩
            case measure => simp [intOf]; omega
      · obtain rfl : k = T.length := by omega
        rw [HFULL.out]
        go_wp2_with fail
        go_ret2
        exact ⟨rfl, HB.out⟩
  | false =>
    rw [hb] at ha
    rw [if_neg (by simp)]
    have HA := Lib.hid ha
    clear ha hb
    go_enter Try.func19, Try.ntmps19
    go_wp2_with (go_at_call 39; ((with_reducible refine (HA.out _).mono ?_); rintro e w1 ⟨rfl, rfl⟩))
    go_ret2
    exact ⟨rfl, Below.refl _ _⟩
set_option maxHeartbeats 1000000 in
theorem spec_ExponentTable (n : Int) (w : World) : Calls Try.prog 17 #[.int .i64 n] w (GivesLL w (res_ExponentTable n) (ok_ExponentTable n)) := by
  unfold res_ExponentTable ok_ExponentTable
  have ha := fun w => taAsked_any n 0 w
  have e : asksB n 0 = inB n 0 4 := by
    by_cases h4 : n = 4
    · subst h4; rfl
    · rw [asks_other h4, show inB 0 (-3) 3 = true from rfl, Bool.and_true]
  simp only [e] at ha
  by_cases h : 0 ≤ n ∧ n ≤ 4
  · rw [inB_yes h.1 h.2] at ha ⊢
    rw [if_pos rfl]
    obtain ⟨m, rfl⟩ := Int.eq_ofNat_of_zero_le h.1
    have hp := fun w => taExponents_any m (by omega) w
    rw [Int.toNat_natCast]
    have HA := Lib.hid ha; have HP := Lib.hid hp
    clear ha hp h e
    generalize tabF cE m = T at *
    go_enter Try.func17, Try.ntmps17
    go_wp2_with (first
      | (go_at_call 39; ((with_reducible refine (HA.out _).mono ?_); rintro e w1 ⟨rfl, rfl⟩))
      | (go_at_call 43; ((with_reducible refine (HP.out _).mono ?_); rintro e w2 ⟨v2, vs2, rfl, ho2, hb2⟩; obtain ⟨x2, z2, rfl, _⟩ := ho2.form; have HO := Lib.hid ho2; have HB := Lib.hid hb2; clear ho2 hb2)))
    go_ret2
    exact ⟨_, vs2, rfl, HO.out, HB.out⟩
  · rw [inB_no h] at ha ⊢
    rw [if_neg (by simp)]
    have HA := Lib.hid ha
    clear ha h e
    go_enter Try.func17, Try.ntmps17
    go_wp2_with (go_at_call 39; ((with_reducible refine (HA.out _).mono ?_); rintro e w1 ⟨rfl, rfl⟩))
    go_ret2
    exact ⟨_, [], rfl, OwnLL.nil _ _ (Nat.le_refl _), Below.refl _ _⟩
end Go.Proofs.Ytgaaddfipkdlaab
