/- ExchangesOf on both sides. -/
import Derived.Test.YteeoepbbocdchaaExNo
import Derived.Test.YteeoepbbocdchaaExPutA
import Derived.Test.YteeoepbbocdchaaExAt
import Derived.Test.YteeoepbbocdchaaExPairs
import Derived.Test.YteeoepbbocdchaaExPath
import Derived.Test.YteeoepbbocdchaaSemis2
import Derived.Test.YteeoepbbocdchaaSortLL
namespace Go.Proofs.Yteeoepbbocdchaa
open Go.RowKit
set_option linter.unusedSimpArgs false
set_option linter.unusedVariables false

def ok_ExchangesOf (l : List Int) : Bool := goodB l
def res_ExchangesOf (l : List Int) : List (List Int) := if goodB l then putAll (exsL l) else []
theorem exs_len (l : List Int) : (exsL l).length = (pairsL l).length := by unfold exsL; rw [List.length_map]
theorem exs_get {l : List Int} {k : Nat} (h : k < (pairsL l).length) : (exsL l).getD k [] = exP l ((pairsL l).getD k []) := by
  unfold exsL
  simp [List.getD, h]
theorem exs_row {l r : List Int} (h : r ∈ exsL l) : r.length = l.length := by
  unfold exsL at h
  obtain ⟨p, _, rfl⟩ := List.mem_map.1 h
  exact exL_length l _ _
theorem len_ExchangesOf (l : List Int) : tot (res_ExchangesOf l) ≤ 1000000 ∧ ∀ i, i < (res_ExchangesOf l).length → ((res_ExchangesOf l).getD i []).length ≤ 1000000 := by
  unfold res_ExchangesOf
  split
  · next h =>
    have h3 : ∀ i, i < (putAll (exsL l)).length → ((putAll (exsL l)).getD i []).length ≤ 12 := fun i hi => by
      have hm : (putAll (exsL l)).getD i [] ∈ putAll (exsL l) := by simp [List.getD, hi]
      rw [exs_row (putAll_mem.1 hm)]; exact good_len' h
    refine ⟨?_, fun i hi => Nat.le_trans (h3 i hi) (by omega)⟩
    have a := tot_le h3
    have b := (ex_facts h).2.2.2
    rw [putAll_length, exs_len] at a
    omega
  · exact ⟨by simp [tot], fun i hi => by simp at hi⟩
/-- one more put in -/
theorem exs_step {l : List Int} {k : Nat} (h : k < (exsL l).length) : putL (putAll ((exsL l).take k)) ((exsL l).getD k []) = putAll ((exsL l).take (k + 1)) := by
  rw [List.take_succ_eq_append_getElem h, putAll_snoc]
  simp [List.getD, h]
theorem exs_fresh {l : List Int} {k : Nat} (hg : goodB l = true) (h : k < (exsL l).length) : ∀ i, i < (putAll ((exsL l).take k)).length → (putAll ((exsL l).take k)).getD i [] ≠ (exsL l).getD k [] := by
  intro i hi e
  have hm : (putAll ((exsL l).take k)).getD i [] ∈ putAll ((exsL l).take k) := by simp [List.getD, hi]
  rw [putAll_mem, e] at hm
  obtain ⟨j, hj, e2⟩ := List.mem_iff_getElem.1 hm
  rw [List.length_take] at hj
  rw [List.getElem_take] at e2
  have hp := List.pairwise_iff_getElem.1 (exs_apart hg) j k (by omega) h (by omega)
  apply hp
  rw [e2]
  simp [List.getD, h]
theorem exs_same {l : List Int} {k : Nat} (h : k < (exsL l).length) : ∀ i, i < (putAll ((exsL l).take k)).length → ((putAll ((exsL l).take k)).getD i []).length = ((exsL l).getD k []).length := by
  intro i hi
  have hm : (putAll ((exsL l).take k)).getD i [] ∈ putAll ((exsL l).take k) := by simp [List.getD, hi]
  have h1 := exs_row (List.mem_of_mem_take (putAll_mem.1 hm))
  have hm2 : (exsL l).getD k [] ∈ exsL l := by simp [List.getD, h]
  rw [h1, exs_row hm2]

set_option maxHeartbeats 4000000 in
set_option maxRecDepth 100000 in
theorem spec_EO_yes (l : List Int) (w : World) (u : Value) (h : Rd w u l) (m : l.length ≤ 1048576) (hg : goodB l = true) :
    Calls Try.prog 11 #[u] w (GivesLL w (putAll (exsL l)) true) := by
  have hgood := ahGood_any u l w h m
  rw [hg] at hgood
  have HA := Lib.hid hgood
  have HP := Lib.hid (fun w h => exPairs_any l w u h hg)
  have HE : Hid (∀ k, k < (pairsL l).length → ∀ r0 r1 : Int, (pairsL l).getD k [] = [r0, r1] → ∀ w, Rd w u l → Calls Try.prog 46 #[u, .int .i64 r0, .int .i64 r1] w (Made w ((exsL l).getD k []))) := by
    intro k hk r0 r1 he w hr
    have hm : (pairsL l).getD k [] ∈ pairsL l := by simp [List.getD, hk]
    obtain ⟨i, j, h1, h2, _, h4⟩ := pairs_mem.1 hm
    rw [exs_get hk, he]
    rw [he] at h4
    simp only [List.cons.injEq, and_true] at h4
    obtain ⟨rfl, rfl⟩ := h4
    exact exAt_any l i j w u hr hg h1 h2
  have HT : Hid (∀ r ∈ pairsL l, r.length = 2) := fun r hr => by obtain ⟨i, j, _, _, _, rfl⟩ := pairs_mem.1 hr; rfl
  have hle := (ex_facts hg).2.2.2
  have HST := Lib.hid (fun k (hk : k < (pairsL l).length) => @exs_step l k (by rw [exs_len]; exact hk))
  have HFR := Lib.hid (fun k (hk : k < (pairsL l).length) => @exs_fresh l k hg (by rw [exs_len]; exact hk))
  have HSA := Lib.hid (fun k (hk : k < (pairsL l).length) => @exs_same l k (by rw [exs_len]; exact hk))
  have HLN : Hid (∀ k, k ≤ (pairsL l).length → (putAll ((exsL l).take k)).length ≤ 66) := fun k hk => by rw [putAll_length, List.length_take, exs_len]; omega
  have HEND : Hid ((exsL l).take (pairsL l).length = exsL l) := by show _ = _; rw [← exs_len, List.take_length]
  have HZ : Hid (putAll ((exsL l).take 0) = []) := rfl
  generalize exsL l = E at *
  generalize pairsL l = P at *
  have H0 := Lib.hid h
  obtain ⟨a0, c0, rfl, _⟩ := h
  clear hgood hg m
  go_enter Try.func11, Try.ntmps11
  go_wp2_with (first
    | (go_at_call 43; ((with_reducible refine HA.out.mono ?_); rintro e w0 ⟨rfl, hb0⟩; have HB0 := Lib.hid hb0; have H1 := Lib.hid (H0.out.below hb0); clear hb0))
    | (go_at_call 44; ((refine (HP.out _ H1.out).mono ?_); rintro e w1 ⟨vf, us, rfl, hU, hb1⟩; obtain ⟨au, cu, rfl, hcu1, hcu2⟩ := hU.form; unfold maxLen at hcu2; have HU := Lib.hid (hU.mono HB0.out.size (Nat.le_refl _) (Nat.le_refl _)); have HB1 := Lib.hid (Below.step HB0.out hb1); clear hU hb1)))
  have hsz1 := HB1.out.size
  go_loopw [4, 13] (fun o i' wr => ∃ (k : Nat) (vs : List Value), k ≤ P.length ∧ i' = .int .i64 (k : Int) ∧ OwnLL w.heap.size wr.heap.size wr o vs (putAll (E.take k)) ∧ Below w1.heap.size w1 wr) (fun _ i _ => P.length - (intOf i).toNat)
  case atStart => exact ⟨0, [], by omega, rfl, by rw [HZ.out]; exact OwnLL.nil _ _ hsz1, Below.refl _ _⟩
  case round =>
    obtain ⟨k, vs, hk, rfl, hown, hbel⟩ := hrel
    generalize wr = wc at *
    have hszc := hbel.size
    by_cases hlt : k < P.length
    · have hU := HU.out.below hbel
      obtain ⟨gu, rfl, _, _, hcell, _⟩ := hU.at (by omega)
      have hck := hcell k hlt
      have hru := hU.own k hlt
      have hmem : P.getD k [] ∈ P := by simp [List.getD, hlt]
      have h2l := HT.out _ hmem
      have hex := HE.out k hlt
      have hst := HST.out k hlt
      have hfr := HFR.out k hlt
      have hsa := HSA.out k hlt
      have hln := HLN.out k hk
      have hln2 : (E.getD k []).length = (E.getD k []).length := rfl
      generalize P.getD k [] = r at *
      generalize rowV us k = pr at *
      generalize E.getD k [] = q at *
      generalize putAll (E.take k) = O at *
      obtain ⟨ap, cp, rfl, hcp1, hcp2⟩ := hru.form
      rw [h2l] at hcp1 hck
      unfold maxLen at hcp2
      obtain ⟨gp, rfl, k0⟩ := hru.get 0 (by omega)
      obtain ⟨gp', e', k1⟩ := hru.get 1 (by omega)
      simp only [Option.some.injEq, Addr.mk.injEq, and_true] at e'
      subst e'
      obtain ⟨r0, r1, rfl⟩ : ∃ r0 r1, r = [r0, r1] := by
        match r, h2l with
        | [x, y], _ => exact ⟨x, y, rfl⟩
      simp only [List.getD_cons_zero, List.getD_cons_succ] at k0 k1
      obtain ⟨ao, co, rfl, hco1, hco2⟩ := hown.form
      have HEX := Lib.hid (fun w => hex r0 r1 rfl w)
      have HST2 := Lib.hid hst; have HFR2 := Lib.hid hfr; have HSA2 := Lib.hid hsa; have HOW := Lib.hid hown; have HBE := Lib.hid hbel
      have hd0 : wc.drew.cell? ⟨gp, 0, none⟩ = some (.int .i64 r0) := k0
      have hd1 : wc.drew.cell? ⟨gp, 1, none⟩ = some (.int .i64 r1) := k1
      have hbd : Below wc.heap.size wc wc.drew := Below.drew (Below.refl _ _)
      have HBD := Lib.hid hbd
      have hL0 : Rd wc.drew (.slice a0 l.length c0) l := H0.out.below (Below.drew (HB1.out.trans (HBE.out.mono hsz1)))
      have HSZ := Lib.hid hszc
      clear hcell hru h2l hex hst hfr hsa hown hbel hU hbd
      go_wp2_with fail
      go_region_with (first
        | (go_at_call 46; ((refine (HEX.out _ hL0).mono ?_); rintro e w2 ⟨v2, rfl, ho2, hb2⟩; obtain ⟨x1, x2, x3, rfl⟩ := ho2.form'; have HO2 : Hid (Own wc.heap.size w2 (.slice x1 x2 x3) q) := ho2; have HB2 : Hid (Below wc.heap.size wc w2) := HBD.out.trans hb2; clear ho2 hb2))
        | (go_at_call 45; ((refine (exPut_any w.heap.size _ _ _ vs O q _ (HOW.out.below HB2.out) (HO2.out.mono (by omega)) (by have := HB2.out.size; omega) (fun i hi j hj hj' => by have h1 := (HO2.out.lt j hj).1; have h2 := HOW.out.inr i hi j hj'; omega) (by omega) HSA2.out HFR2.out).mono ?_); rintro e w3 ⟨v3, vs3, rfl, ho3, hb3⟩; have HO3 := Lib.hid ho3; have HB3 := Lib.hid (Below.step HB2.out hb3); clear ho3 hb3)))
      all_goals
        go_wp2
        go_roundw
        case rel => exact ⟨k + 1, vs3, by omega, by go_num, by rw [← HST2.out]; exact HO3.out, Below.step HBE.out HB3.out⟩
        case measure => simp [intOf]; omega
    · obtain rfl : k = P.length := by omega
      rw [HEND.out] at hown
      obtain ⟨a5, c5, rfl, _⟩ := hown.form
      have HOW := Lib.hid hown; have HBE := Lib.hid hbel
      clear hown hbel
      go_wp2_with fail
      go_ret2
      exact ⟨_, vs, rfl, HOW.out, HB1.out.trans (HBE.out.mono hsz1)⟩
set_option maxHeartbeats 1000000 in
theorem spec_ExchangesOf (l : List Int) (w : World) (u : Value) (h : Rd w u l) (m : l.length ≤ 1048576) : Calls Try.prog 11 #[u] w (GivesLL w (res_ExchangesOf l) (ok_ExchangesOf l)) := by
  unfold res_ExchangesOf ok_ExchangesOf
  cases hg : goodB l with
  | true => exact spec_EO_yes l w u h m hg
  | false =>
    have hgood := fun w h => ahGood_any u l w h m
    rw [hg] at hgood
    have HA := Lib.hid hgood; have H0 := Lib.hid h; clear hg hgood
    go_enter Try.func11, Try.ntmps11
    go_wp2_with (go_at_call 43; refine (HA.out _ H0.out).mono ?_; rintro e w1 ⟨rfl, hb⟩)
    go_ret2
    exact ⟨_, [], rfl, OwnLL.nil _ _ hb.size, hb⟩

set_option maxHeartbeats 2000000 in
set_option maxRecDepth 100000 in
theorem impl_ExchangesOf (l : List Int) (w : World) (u : Value) (h : Rd w u l) (m : l.length ≤ 1048576) : Calls Try.prog 13 #[u] w (GivesLL w (res_ExchangesOf l) (ok_ExchangesOf l)) := by
  unfold res_ExchangesOf ok_ExchangesOf
  cases hg : goodB l with
  | true =>
    have hl := good_len' hg
    have HRS := Lib.hid (readSystem_yes u l w h hg)
    have HX := Lib.hid (fun w => exchanges_any l hg w)
    have HLS := Lib.hid (fun B w v ho => listsSys_any (exsL l) (fun k hk => by
      have hm : (exsL l).getD k [] ∈ exsL l := by simp [List.getD, hk]
      rw [exs_row hm]; exact hl) (by rw [exs_len]; have := (ex_facts hg).2.2.2; omega) B w v ho)
    have HSO := Lib.hid (fun lo hi v vs w ho => sortLL_any lo hi v vs (exsL l) w ho (by rw [exs_len]; have := (ex_facts hg).2.2.2; omega))
    simp only [if_true]
    generalize exsL l = E at *
    clear hg h
    go_enter Try.func13, Try.ntmps13
    go_wp2_with fail
    refine HRS.out.mono ?_
    rintro e w1 ⟨rfl, hb⟩
    have HB1 := Lib.hid hb; clear hb
    go_wp2_with (first
      | ((with_reducible refine wp_storeNew rfl (.tmp 4) (.tmp 10) rfl _ l hl rfl rfl ?_); intro w2 hs2 hb2; have HB2 := Lib.hid (Below.step HB1.out hb2); have HS2 := Lib.hid hs2; clear hs2 hb2)
      | (with_reducible refine wp_loadSys rfl (.tmp 4) rfl w1.heap.size l hl rfl HS2.out ?_)
      | (go_at_call 49; ((with_reducible refine (HX.out _).mono ?_); rintro e w3 ⟨v3, rfl, ho3, hb3⟩; have HO3 := Lib.hid ho3; have HB3 := Lib.hid (Below.step HB2.out hb3); clear ho3 hb3))
      | (go_at_call 48; ((refine (HLS.out _ _ _ HO3.out).mono ?_); rintro e w4 ⟨v4, vs4, rfl, ho4, hb4⟩; have HO4 := Lib.hid ho4; have HB4 := Lib.hid (Below.step HB3.out hb4); clear ho4 hb4))
      | (go_at_call 50; ((refine (HSO.out _ _ _ _ _ HO4.out).mono ?_); rintro e w5 ⟨rfl, ⟨vs5, ho5⟩, hb5⟩; have HO5 := Lib.hid ho5; have HB5 := Lib.hid hb5; clear ho5 hb5)))
    go_ret2
    exact ⟨_, vs5, rfl, HO5.out.mono HB3.out.size HB5.out.size (Nat.le_refl _), HB4.out.trans (HB5.out.mono HB3.out.size)⟩
  | false =>
    simp only [Bool.false_eq_true, if_false]
    have HR := Lib.hid (readSystem_no u l w h hg)
    obtain ⟨a0, c0, rfl, _⟩ := h
    clear hg
    go_enter Try.func13, Try.ntmps13
    go_wp2_with fail
    refine HR.out.mono ?_
    rintro e w1 ⟨rfl, hb⟩
    have HB1 := Lib.hid hb; clear hb
    go_wp2_with ((with_reducible refine wp_storeNew rfl (.tmp 4) (.tmp 10) rfl _ [] (Nat.zero_le _) rfl rfl ?_); intro w2 hs2 hb2; have HB2 := Lib.hid (Below.step HB1.out hb2); clear hs2 hb2)
    go_ret2
    exact ⟨_, [], rfl, OwnLL.nil _ _ HB2.out.size, HB2.out⟩

end Go.Proofs.Yteeoepbbocdchaa
