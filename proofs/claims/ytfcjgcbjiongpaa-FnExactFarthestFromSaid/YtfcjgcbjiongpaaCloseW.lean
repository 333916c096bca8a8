/- ClosingWith: the program's function and the model's. -/
import Derived.Test.YtfcjgcbjiongpaaAmong
import Derived.Test.YtfcjgcbjiongpaaListsLaw
import Derived.Test.YtfcjgcbjiongpaaSteps
namespace Go.Proofs.Ytfcjgcbjiongpaa
open Go.RowKit
set_option linter.unusedSimpArgs false
set_option linter.unusedVariables false

def ok_ClosingWith (t : List Int) : Bool := goodB t && !(t.length == 0)
def res_ClosingWith (t : List Int) : List (List Int) := if goodB t && !(t.length == 0) then closeL t 1 else []

theorem closeL_rows {t : List Int} (gt : goodB t = true) (c : Int) : (closeL t c).length ≤ 1000 ∧ ∀ k, k < (closeL t c).length → goodB ((closeL t c).getD k []) = true := by
  obtain ⟨m, hm6, hm2, hm3, hsh, hgd⟩ := sys_half gt
  have hcl : closeL t c = (allL m).filter (closeB t c) := by unfold closeL; rw [hm3]
  rw [hcl]
  refine ⟨Nat.le_trans (List.length_filter_le _ _) hsh, fun k hk => ?_⟩
  have hmem : ((allL m).filter (closeB t c)).getD k [] ∈ (allL m).filter (closeB t c) := by simp [List.getD, hk]
  obtain ⟨j, hj, e⟩ := List.getElem_of_mem (List.mem_filter.1 hmem).1
  have h := (hgd j hj).1
  have e2 : (allL m).getD j [] = ((allL m).filter (closeB t c)).getD k [] := by rw [← e]; simp [List.getD, hj]
  rw [← e2]
  exact h
theorem len_ClosingWith (t : List Int) : tot (res_ClosingWith t) ≤ 1000000 ∧ ∀ i, i < (res_ClosingWith t).length → ((res_ClosingWith t).getD i []).length ≤ 1000000 := by
  have h : (res_ClosingWith t).length ≤ 1000 ∧ ∀ i, i < (res_ClosingWith t).length → ((res_ClosingWith t).getD i []).length ≤ 12 := by
    unfold res_ClosingWith
    cases hg : goodB t with
    | false => simp
    | true =>
      cases hz : (t.length == 0) with
      | true => simp
      | false =>
        have := closeL_rows hg 1
        simp only [Bool.not_false, Bool.and_true, if_true]
        exact ⟨this.1, fun i hi => good_len' (this.2 i hi)⟩
  exact ⟨Nat.le_trans (tot_le (K := 12) h.2) (by omega), fun i hi => Nat.le_trans (h.2 i hi) (by omega)⟩
theorem among_under (t : List Int) : amongL (underL t) = (closeL t 1).map (fun q => (t, q)) := by
  unfold amongL underL closeL
  rw [List.filter_map]
  congr 1
  refine List.filter_congr fun q _ => ?_
  show decide (compsL t q = 1) = (((compsL t q : Nat) : Int) == 1)
  rw [Bool.eq_iff_iff]
  simp
  omega

set_option maxRecDepth 100000 in
set_option maxHeartbeats 4000000 in
theorem impl_ClosingWith (t : List Int) (w : World) (u : Value) (h : Rd w u t) (m1 : t.length ≤ 1048576) : Calls Try.prog 53 #[u] w (GivesLL w (res_ClosingWith t) (ok_ClosingWith t)) := by
  unfold res_ClosingWith ok_ClosingWith
  cases hg : goodB t with
  | false =>
    have HG := Lib.hid hg; clear hg
    go_enter Try.func53, Try.ntmps53
    go_wp2_with fail
    refine (readSystem_no u t _ h HG.out).mono ?_
    rintro e w1 ⟨rfl, hb⟩
    go_wp2_with ((with_reducible refine wp_storeNew rfl (.tmp 4) (.tmp 12) rfl _ [] (Nat.zero_le _) rfl rfl ?_); intro w2 hs2 hb2)
    go_ret2
    exact ⟨_, _, rfl, OwnLL.nil _ _ (Below.step hb hb2).size, Below.step hb hb2⟩
  | true =>
    have HL := Lib.hid (good_len' hg)
    have HG := Lib.hid hg
    by_cases hz : t.length = 0
    · have e : (t.length == 0) = true := by simp [hz]
      rw [e]
      have HZ : Hid (((t.length : Nat) : Int) = 0) := by show ((t.length : Nat) : Int) = 0; omega
      clear hg e hz
      go_enter Try.func53, Try.ntmps53
      go_wp2_with fail
      refine (readSystem_yes u t _ h HG.out).mono ?_
      rintro e w1 ⟨rfl, hb⟩
      go_wp2_with ((with_reducible refine wp_storeNew rfl (.tmp 4) (.tmp 12) rfl _ t HL.out rfl rfl ?_); intro w2 hs2 hb2; have hcs := hs2.size HL.out; rw [HZ.out] at hcs)
      go_ret2
      exact ⟨_, _, rfl, OwnLL.nil _ _ (Below.step hb hb2).size, Below.step hb hb2⟩
    · have e : (t.length == 0) = false := by simp [hz]
      rw [e]
      have hz2 : (((t.length : Nat) : Int) == 0) = false := by rw [beq_eq_false_iff_ne]; omega
      simp only [Bool.not_false, Bool.and_true, if_true]
      have hpu := fun w => pairsUnder_any t hg w
      obtain ⟨m, hm6, hm2, hm3, hsh, hgd⟩ := sys_half hg
      have hul := under_len hm3
      have hgu : ∀ k, k < (underL t).length → goodB ((underL t).getD k ([], [])).1 = true ∧ goodB ((underL t).getD k ([], [])).2 = true ∧ ((underL t).getD k ([], [])).1.length = ((underL t).getD k ([], [])).2.length := by
        intro k hk
        rw [under_get hm3 k (by omega)]
        exact ⟨hg, (hgd k (by omega)).1, (hgd k (by omega)).2⟩
      have ham := fun B w v ho => meandersAmong_any (underL t) hgu (by omega) B w v ho
      rw [among_under] at ham
      have hcr := closeL_rows hg 1
      have hgl : ∀ k, k < (closeL t 1).length → ((closeL t 1).map (fun q => (t, q))).getD k ([], []) = (t, (closeL t 1).getD k []) := fun k hk => by simp [List.getD, hk]
      have hml : ((closeL t 1).map (fun q => (t, q))).length = (closeL t 1).length := List.length_map _
      generalize closeL t 1 = L at *
      generalize L.map (fun q => (t, q)) = MS at *
      generalize underL t = PS at *
      have HPU := Lib.hid hpu; have HAM := Lib.hid ham; have HCR := Lib.hid hcr; have HGL := Lib.hid hgl; have HML := Lib.hid hml
      have hL1 := hcr.1
      obtain ⟨n, hn⟩ : ∃ n, n = t.length := ⟨_, rfl⟩
      have HN := Lib.hid hn
      rw [← hn] at hz2
      have hn12 : n ≤ 12 := by have := HL.out; omega
      clear hpu ham hcr hgl hml hgu hul hsh hgd hm2 hm3 hg e hz hn
      go_enter Try.func53, Try.ntmps53
      go_wp2_with fail
      refine (readSystem_yes u t _ h HG.out).mono ?_
      rintro e w1 ⟨rfl, hb⟩
      go_wp2_with (first
        | ((with_reducible refine wp_storeNew rfl (.tmp 4) (.tmp 12) rfl _ t HL.out rfl rfl ?_); intro w2 hs2 hb2; have HB2 := Lib.hid (Below.step hb hb2); have hcs := hs2.size HL.out; rw [← HN.out] at hcs; clear hb2 hb)
        | (with_reducible refine wp_loadSys rfl (.tmp 4) rfl w1.heap.size t HL.out rfl hs2 ?_)
        | (go_at_call 76; ((with_reducible refine (HPU.out _).mono ?_); rintro e w3 ⟨pv, rfl, hop, hb3⟩; obtain ⟨pa, pc, rfl, hp1, hp2⟩ := hop.form; have HOP := Lib.hid hop; have HB3 := Lib.hid (Below.step HB2.out hb3); clear hb3 hop hs2 hcs hp1 hp2))
        | (go_at_call 75; ((with_reducible refine (HAM.out _ _ _ HOP.out).mono ?_); rintro e w4 ⟨mv, rfl, hom, hb4⟩; obtain ⟨ma, mc, rfl, hp1, hp2⟩ := hom.form; unfold maxLen at hp2; have HOM := Lib.hid hom; have HB4 := Lib.hid (Below.step HB3.out hb4); clear hb4 hom)))
      rw [HML.out] at hp1 HOM ⊢
      go_loopw [6, 25] (fun o i wr => ∃ (k : Nat) (vs : List Value), k ≤ L.length ∧ i = .int .i64 (k : Int) ∧ OwnLL w.heap.size wr.heap.size wr o vs (L.take k) ∧ OwnP w3.heap.size wr (.slice ma L.length mc) MS ∧ Away o w3.heap.size w4.heap.size ∧ w4.heap.size ≤ wr.heap.size ∧ Below w.heap.size w wr) (fun _ i _ => L.length - (intOf i).toNat)
      case atStart => exact ⟨0, [], by omega, rfl, OwnLL.nil _ _ HB4.out.size, HOM.out, fun k hk => by simp [Value.ownBlock] at hk, Nat.le_refl _, HB4.out⟩
      case round =>
        obtain ⟨k, vs, hk, rfl, hout, hown, haw, hwk, hbel⟩ := hrel
        have HMW := Lib.hid HOM.out.lt
        clear HOM HB4 HOP HB3 HB2
        generalize wr = wc at *
        by_cases hlt : k < L.length
        · have hblk := HMW.out
          obtain ⟨g, rfl, hx1, hx2, hx3, hrg, hth⟩ := hown.at (by rw [HML.out]; omega)
          have hgm := hblk g rfl
          have hr := hrg k (by rw [HML.out]; exact hlt)
          rw [HGL.out k hlt] at hr
          have hq12 := good_len' (HCR.out.2 k hlt)
          have htk : L.take (k + 1) = L.take k ++ [L.getD k []] := by rw [List.take_add_one]; simp [List.getD, List.getElem?_eq_getElem hlt]
          have HLT : Hid ((L.take k).length ≤ 1000) := by show _ ≤ 1000; rw [List.length_take]; omega
          generalize L.getD k [] = q at *
          have hli := fun w => list_any q w hq12
          generalize L.take k = S at *
          have HR := Lib.hid hr; have HLI := Lib.hid hli; have HO := Lib.hid hown; have HOUT := Lib.hid hout; have HBE := Lib.hid hbel; have HTK := Lib.hid htk; have HQ := Lib.hid hq12; have HAW := Lib.hid haw
          have hsz := hbel.size
          clear hx1 hx2 hx3 hrg hth hr hli hown hbel htk hq12 hout haw hblk
          go_wp2_with (first
            | (with_reducible refine boxP_load rfl (.tmp 27) rfl g (k * 26) t q rfl HR.out ?_)
            | ((with_reducible refine wp_storePairN rfl (.tmp 8) (.tmp 28) rfl t q rfl rfl ?_); intro w5 hs5 hb5; have HS5 := Lib.hid hs5; have HB5 := Lib.hid hb5; clear hs5 hb5)
            | (with_reducible refine wp_loadBot rfl (.tmp 30) rfl wc.heap.size t q HQ.out rfl HS5.out ?_)
            | (go_at_call 41; ((with_reducible refine (HLI.out _).mono ?_); rintro e w6 ⟨lv, rfl, hol, hb6⟩; obtain ⟨p1, p2, p3, rfl⟩ := hol.form'; have HOL := Lib.hid (hol.mono HB5.out.size); have HB6 := Lib.hid (Below.step HB5.out hb6); clear hb6 hol))
            | (at_builtin; refine wp_appendLL _ rfl (.tmp 29) (.tmp 33) rfl w.heap.size wc.heap.size wc.heap.size w6.heap.size _ (.slice p1 p2 p3) _ S q rfl rfl (cell_lit1 w6 (.slice p1 p2 p3) _) (OwnLL.below HOUT.out (HB6.out.alloc HB6.out.size _)) (Own.below HOL.out (Below.alloc1 _ _)) (Nat.le_refl _) hsz (by have := HLT.out; omega) (by have := HB6.out.size; simp; omega) ?_; intro o' w7 ho7 hg7 hb7 hw7; have hkeep := LL_round HOUT.out (HB6.out.alloc HB6.out.size _) hg7 hw7; have HKP := Lib.hid hkeep; have HO7 := Lib.hid ho7; have HOP7 := Lib.hid ((OwnP.below HO.out (HB6.out.alloc HB6.out.size (.cells #[.slice p1 p2 p3] 22))).grown hg7 (fun kk hkk e => by have h8 := HAW.out kk e; have h9 : some g = some kk := hkk; cases h9; omega)); have HB7 := Lib.hid ((HBE.out.trans ((HB6.out.alloc HB6.out.size (.cells #[.slice p1 p2 p3] 22)).mono hsz)).trans hb7); clear hkeep ho7 hg7 hb7 hw7))
          go_roundw
          case rel => exact ⟨k + 1, _, by omega, by go_num, by rw [HTK.out]; exact HO7.out, HOP7.out, HKP.out.2.1 _ _ HAW.out hwk, Nat.le_trans hwk HKP.out.2.2.2, HB7.out⟩
          case measure => simp [intOf]; omega
        · obtain rfl : k = L.length := by omega
          rw [List.take_length] at hout
          obtain ⟨ao, co, rfl, _⟩ := hout.form
          have HOUT := Lib.hid hout; have HBE := Lib.hid hbel
          clear hown hbel hout haw
          go_wp2_with fail
          go_ret2
          exact ⟨_, _, rfl, HOUT.out, HBE.out⟩


end Go.Proofs.Ytfcjgcbjiongpaa
