/- The law FnExchangesChangeByOne returns true on any two byte slices: each exchange changes the number of components with any system by one and undoes itself, and exchanges are as many as pairs in faces. No condition. -/
import Derived.Test.YtogjclmmjdhfeacRows
import Derived.ProofKit
import Derived.OpenShut
import Derived.ShutString
import Derived.ChangeOld
import Derived.Below
import Derived.Lib.SmallJoins
import Derived.Deep.DeepCutAuto
import Derived.Deep.CutBlock
import Derived.Test.YtogjclmmjdhfeacCmps
import Derived.Test.YtogjclmmjdhfeacLess
import Derived.Test.YtogjclmmjdhfeacDrawX
import Derived.Test.YtogjclmmjdhfeacExL
import Derived.Test.YtogjclmmjdhfeacSystems
import Derived.Test.YtogjclmmjdhfeacIsSystem
namespace Go.Proofs.Ytogjclmmjdhfeac
open Go.RowKit
set_option linter.unusedSimpArgs false
set_option linter.unusedVariables false

theorem law_prod {L : Nat} (h : L ≤ 12) : 0 ≤ (L : Int) * ((L : Int) - 1) ∧ (L : Int) * ((L : Int) - 1) ≤ 132 ∧ (L : Int) * ((L : Int) - 1) / 2 = ((L * (L - 1) / 2 : Nat) : Int) := by
  have : L = 0 ∨ L = 1 ∨ L = 2 ∨ L = 3 ∨ L = 4 ∨ L = 5 ∨ L = 6 ∨ L = 7 ∨ L = 8 ∨ L = 9 ∨ L = 10 ∨ L = 11 ∨ L = 12 := by omega
  rcases this with rfl | rfl | rfl | rfl | rfl | rfl | rfl | rfl | rfl | rfl | rfl | rfl | rfl <;> decide
theorem choose_take (fs : List (List Int)) (k : Nat) (h : k < fs.length) : chooseL (fs.take (k + 1)) = chooseL (fs.take k) + (fs.getD k []).length * ((fs.getD k []).length - 1) / 2 := by
  unfold chooseL
  rw [List.take_succ_eq_append_getElem h, List.foldl_append]
  simp [List.getD, h]
theorem choose_le (fs : List (List Int)) (h : ∀ f ∈ fs, f.length ≤ 12) : ∀ k, k ≤ fs.length → chooseL (fs.take k) ≤ 66 * k
  | 0, _ => by simp [chooseL]
  | k + 1, hk => by
    have ih := choose_le fs h k (by omega)
    rw [choose_take fs k (by omega)]
    have hm : fs.getD k [] ∈ fs := by simp [List.getD, (show k < fs.length by omega)]
    have h12 := h _ hm
    have := (law_prod h12).2.1
    have h3 := (law_prod h12).2.2
    omega
theorem law_told {l : List Int} (h : ok_ExchangesOf l = true) : ∃ m : Nat, (l.length : Int) / 2 = (m : Int) ∧ m ≤ 6 ∧ (res_FacesOf l).length = m + 1 ∧ tot (res_FacesOf l) = l.length ∧ chooseL (res_FacesOf l) = (res_ExchangesOf l).length ∧ res_CountExchanges l = (((res_ExchangesOf l).length : Nat) : Int) ∧ (∀ f ∈ res_FacesOf l, f.length ≤ 12) := by
  unfold ok_ExchangesOf at h
  have hf := law_faces h
  have h12 := good_len' h
  have e1 : res_FacesOf l = faceW l := by unfold res_FacesOf; rw [h]; rfl
  have e2 : (res_ExchangesOf l).length = (pairsL l).length := by unfold res_ExchangesOf exsL; rw [h, if_pos rfl, putAll_length, List.length_map]
  have e3 : res_CountExchanges l = ((pairsL l).length : Int) := by unfold res_CountExchanges; rw [h]; rfl
  rw [e1, e2, e3]
  exact ⟨l.length / 2, by omega, by omega, hf.1, hf.2.1, hf.2.2.1, rfl, hf.2.2.2⟩
theorem law_order {l : List Int} (h : ok_ExchangesOf l = true) : ∀ k, k + 1 < (res_ExchangesOf l).length → ltL ((res_ExchangesOf l).getD k []) ((res_ExchangesOf l).getD (k + 1) []) = true := by
  unfold ok_ExchangesOf at h
  have e : res_ExchangesOf l = putAll (exsL l) := by unfold res_ExchangesOf; rw [h]; rfl
  rw [e]
  exact exs_sorted h
theorem ex_bd (t b : List Int) : 0 ≤ res_ComponentsOf t b ∧ res_ComponentsOf t b ≤ 12 := by
  unfold res_ComponentsOf
  cases h : pairOk t b with
  | true =>
    have h1 := good_len' (pairOk_facts h).1
    have h2 := compsL_le t b
    rw [if_pos rfl]; omega
  | false => rw [if_neg (by simp)]; omega
theorem law_rows {l : List Int} (h : goodB l = true) : ∃ m : Nat, (l.length : Int) / 2 = (m : Int) ∧ ok_AllSystems (m : Int) = true ∧ 0 < (res_AllSystems (m : Int)).length ∧ (res_AllSystems (m : Int)).length ≤ 132 ∧
    ∀ k, k < (res_AllSystems (m : Int)).length → goodB ((res_AllSystems (m : Int)).getD k []) = true ∧ ((res_AllSystems (m : Int)).getD k []).length = l.length := by
  have h1 := good_len' h
  have h2 := (good_facts h).1
  refine ⟨l.length / 2, by omega, ?_⟩
  have ho : ok_AllSystems ((l.length / 2 : Nat) : Int) = true := by unfold ok_AllSystems; exact inB_iff.2 (by omega)
  have e : res_AllSystems ((l.length / 2 : Nat) : Int) = allL (l.length / 2) := by unfold res_AllSystems; rw [ho, Int.toNat_natCast]; rfl
  rw [e]
  have hc := catN_bd (l.length / 2) (by omega)
  have ha := allL_length (n := l.length / 2) (by omega)
  refine ⟨ho, by omega, by omega, fun k hk => ?_⟩
  have := allL_good (n := l.length / 2) (by omega) hk
  exact ⟨this.1, by rw [this.2]; omega⟩

set_option maxHeartbeats 8000000 in
set_option maxRecDepth 100000 in
theorem walk_ExchangesChangeByOne (b0 : Option Addr) (n0 c0 : Nat) (l1 : List Int) (b1 : Option Addr) (n1 c1 : Nat) (l2 : List Int) (w : World) (y1 : RdY w (.slice b0 n0 c0) l1) (y2 : RdY w (.slice b1 n1 c1) l2) :
    Calls Try.prog 4 #[.slice b0 n0 c0, .slice b1 n1 c1] w (Good w) := by
  have Y1 := Lib.hid y1; have Y2 := Lib.hid y2; clear y1 y2
  have C : Hid (Below w.heap.size w w) := Below.refl _ _
  have HIF : Hid (∀ b : Bool, b = true ∨ b = false) := fun b => by cases b <;> simp
  go_enter Try.func4, Try.ntmps4
  go_wp2_with fail
  refine (big_yes _ _ _ l1 _ _ _ l2 _ Y1.out Y2.out).mono ?_
  rintro e w0 ⟨b, rfl, rfl, hbig⟩
  rcases HIF.out b with rfl | rfl
  · go_wp2
    go_ret
    exact ⟨rfl, C.out⟩
  have HBIG := Lib.hid (hbig rfl)
  clear hbig
  go_wp2_with fail
  refine (drawExchangeAt_any _ l1 _ Y1.out).mono ?_
  rintro e w1 ⟨v_p, lp, x, y, rfl, ho, hl, hx, hy, hb⟩
  obtain ⟨pa, pn, pc, rfl⟩ := ho.form'
  have LP := Lib.hid hl; have HX := Lib.hid hx; have HY := Lib.hid hy; clear hl hx hy
  replace Y1 := Lib.hid (RdY.below Y1.out hb); replace Y2 := Lib.hid (RdY.below Y2.out hb)
  replace C := Lib.hid (Below.step C.out hb)
  clear hb
  have O_p := Lib.hid ho; clear ho
  go_wp2_with fail
  refine (impl_ExchangeAt lp x y _ _ O_p.out.rd (by have := LP.out; omega)).mono ?_
  rintro e w2 ⟨v_q, rfl, ho, hb⟩
  obtain ⟨qa, qn, qc, rfl⟩ := ho.form'
  replace O_p := Lib.hid (Own.below O_p.out hb)
  replace Y1 := Lib.hid (RdY.below Y1.out hb); replace Y2 := Lib.hid (RdY.below Y2.out hb)
  replace C := Lib.hid (Below.step C.out hb)
  clear hb
  have O_q := Lib.hid ho; clear ho
  have L_q : Hid ((res_ExchangeAt lp x y).length ≤ 1048576) := Nat.le_trans (len_ExchangeAt lp x y) (by omega)
  go_wp2_with fail
  refine (spec_ExchangeAt lp x y _ _ O_p.out.rd (by have := LP.out; omega)).mono ?_
  rintro e w3 ⟨v_qw, rfl, ho, hb⟩
  obtain ⟨qwa, qwn, qwc, rfl⟩ := ho.form'
  replace O_p := Lib.hid (Own.below O_p.out hb)
  replace O_q := Lib.hid (Own.below O_q.out hb)
  replace Y1 := Lib.hid (RdY.below Y1.out hb); replace Y2 := Lib.hid (RdY.below Y2.out hb)
  replace C := Lib.hid (Below.step C.out hb)
  clear hb
  have O_qw := Lib.hid ho; clear ho
  have L_qw : Hid ((res_ExchangeAt lp x y).length ≤ 1048576) := Nat.le_trans (len_ExchangeAt lp x y) (by omega)
  go_wp2_with fail
  refine (sSame_yes _ _ _ _ _ O_q.out.rd O_qw.out.rd rfl).mono ?_
  rintro e w4 ⟨rfl, hb⟩
  replace O_p := Lib.hid (Own.below O_p.out hb)
  replace O_q := Lib.hid (Own.below O_q.out hb)
  replace O_qw := Lib.hid (Own.below O_qw.out hb)
  replace Y1 := Lib.hid (RdY.below Y1.out hb); replace Y2 := Lib.hid (RdY.below Y2.out hb)
  replace C := Lib.hid (Below.step C.out hb)
  clear hb
  clear O_qw
  go_wp2_with fail
  refine (drawExchangesOf_any _ l2 _ Y2.out).mono ?_
  rintro e w5 ⟨v_s, ls, rfl, ho, hl, hb⟩
  obtain ⟨sa, sn, sc, rfl⟩ := ho.form'
  have LS := Lib.hid hl; clear hl
  replace O_p := Lib.hid (Own.below O_p.out hb)
  replace O_q := Lib.hid (Own.below O_q.out hb)
  replace Y1 := Lib.hid (RdY.below Y1.out hb); replace Y2 := Lib.hid (RdY.below Y2.out hb)
  replace C := Lib.hid (Below.step C.out hb)
  clear hb
  have O_s := Lib.hid ho; clear ho
  go_wp2_with fail
  refine (impl_ExchangesOf ls _ _ O_s.out.rd (by have := LS.out; omega)).mono ?_
  rintro e w6 ⟨v_al, vs_al, rfl, ho, hb⟩
  obtain ⟨ala, alc, rfl, _⟩ := ho.form
  replace O_p := Lib.hid (Own.below O_p.out hb)
  replace O_q := Lib.hid (Own.below O_q.out hb)
  replace O_s := Lib.hid (Own.below O_s.out hb)
  replace Y1 := Lib.hid (RdY.below Y1.out hb); replace Y2 := Lib.hid (RdY.below Y2.out hb)
  replace C := Lib.hid (Below.step C.out hb)
  clear hb
  have O_al := Lib.hid ho; clear ho
  go_wp2_with fail
  refine (spec_ExchangesOf ls _ _ O_s.out.rd (by have := LS.out; omega)).mono ?_
  rintro e w7 ⟨v_wa, vs_wa, rfl, ho, hb⟩
  obtain ⟨waa, wac, rfl, _⟩ := ho.form
  replace O_p := Lib.hid (Own.below O_p.out hb)
  replace O_q := Lib.hid (Own.below O_q.out hb)
  replace O_s := Lib.hid (Own.below O_s.out hb)
  replace O_al := Lib.hid (OwnLL.below O_al.out hb)
  replace Y1 := Lib.hid (RdY.below Y1.out hb); replace Y2 := Lib.hid (RdY.below Y2.out hb)
  replace C := Lib.hid (Below.step C.out hb)
  clear hb
  have O_wa := Lib.hid ho; clear ho
  go_wp2_with fail
  refine (impl_CountExchanges ls _ _ O_s.out.rd (by have := LS.out; omega)).mono ?_
  rintro e w8 ⟨rfl, hb⟩
  replace O_p := Lib.hid (Own.below O_p.out hb)
  replace O_q := Lib.hid (Own.below O_q.out hb)
  replace O_s := Lib.hid (Own.below O_s.out hb)
  replace O_al := Lib.hid (OwnLL.below O_al.out hb)
  replace O_wa := Lib.hid (OwnLL.below O_wa.out hb)
  replace Y1 := Lib.hid (RdY.below Y1.out hb); replace Y2 := Lib.hid (RdY.below Y2.out hb)
  replace C := Lib.hid (Below.step C.out hb)
  clear hb
  rw [show ok_CountExchanges ls = ok_ExchangesOf ls from rfl]
  go_wp2_with fail
  refine (impl_FacesOf ls _ _ O_s.out.rd (by have := LS.out; omega)).mono ?_
  rintro e w9 ⟨v_fc, vs_fc, rfl, ho, hb⟩
  obtain ⟨fca, fcc, rfl, _⟩ := ho.form
  replace O_p := Lib.hid (Own.below O_p.out hb)
  replace O_q := Lib.hid (Own.below O_q.out hb)
  replace O_s := Lib.hid (Own.below O_s.out hb)
  replace O_al := Lib.hid (OwnLL.below O_al.out hb)
  replace O_wa := Lib.hid (OwnLL.below O_wa.out hb)
  replace Y1 := Lib.hid (RdY.below Y1.out hb); replace Y2 := Lib.hid (RdY.below Y2.out hb)
  replace C := Lib.hid (Below.step C.out hb)
  clear hb
  have O_fc := Lib.hid ho; clear ho
  rw [show ok_FacesOf ls = ok_ExchangesOf ls from rfl]
  go_wp2_with fail
  refine (spec_FacesOf ls _ _ O_s.out.rd (by have := LS.out; omega)).mono ?_
  rintro e w10 ⟨v_fm, vs_fm, rfl, ho, hb⟩
  obtain ⟨fma, fmc, rfl, _⟩ := ho.form
  replace O_p := Lib.hid (Own.below O_p.out hb)
  replace O_q := Lib.hid (Own.below O_q.out hb)
  replace O_s := Lib.hid (Own.below O_s.out hb)
  replace O_al := Lib.hid (OwnLL.below O_al.out hb)
  replace O_wa := Lib.hid (OwnLL.below O_wa.out hb)
  replace O_fc := Lib.hid (OwnLL.below O_fc.out hb)
  replace Y1 := Lib.hid (RdY.below Y1.out hb); replace Y2 := Lib.hid (RdY.below Y2.out hb)
  replace C := Lib.hid (Below.step C.out hb)
  clear hb
  have O_fm := Lib.hid ho; clear ho
  rw [show ok_FacesOf ls = ok_ExchangesOf ls from rfl]
  go_wp2_with fail
  refine (sSameRows_yes _ _ _ _ _ _ _ _ _ _ O_al.out O_wa.out).mono ?_
  rintro e w11 ⟨rfl, hb⟩
  replace O_p := Lib.hid (Own.below O_p.out hb)
  replace O_q := Lib.hid (Own.below O_q.out hb)
  replace O_s := Lib.hid (Own.below O_s.out hb)
  replace O_al := Lib.hid (OwnLL.below O_al.out hb)
  replace O_wa := Lib.hid (OwnLL.below O_wa.out hb)
  replace O_fc := Lib.hid (OwnLL.below O_fc.out hb)
  replace O_fm := Lib.hid (OwnLL.below O_fm.out hb)
  replace Y1 := Lib.hid (RdY.below Y1.out hb); replace Y2 := Lib.hid (RdY.below Y2.out hb)
  replace C := Lib.hid (Below.step C.out hb)
  clear hb
  go_wp2_with fail
  refine (sSameRows_yes _ _ _ _ _ _ _ _ _ _ O_fc.out O_fm.out).mono ?_
  rintro e w12 ⟨rfl, hb⟩
  replace O_p := Lib.hid (Own.below O_p.out hb)
  replace O_q := Lib.hid (Own.below O_q.out hb)
  replace O_s := Lib.hid (Own.below O_s.out hb)
  replace O_al := Lib.hid (OwnLL.below O_al.out hb)
  replace O_wa := Lib.hid (OwnLL.below O_wa.out hb)
  replace O_fc := Lib.hid (OwnLL.below O_fc.out hb)
  replace O_fm := Lib.hid (OwnLL.below O_fm.out hb)
  replace Y1 := Lib.hid (RdY.below Y1.out hb); replace Y2 := Lib.hid (RdY.below Y2.out hb)
  replace C := Lib.hid (Below.step C.out hb)
  clear hb
  clear O_wa
  clear O_fm
  have e9 := O_s.out.form
  obtain ⟨_, _, e9, hlc_s, hcm_s⟩ := e9
  simp only [Value.slice.injEq] at e9
  obtain ⟨-, rfl, rfl⟩ := e9
  unfold maxLen at hcm_s
  have FT0 := Lib.hid (fun h => @law_told ls h); have FO0 := Lib.hid (fun h => @law_order ls h); have FE0 := Lib.hid (fun (h : ok_ExchangesOf ls = true) => law_each (l := ls) (by unfold ok_ExchangesOf at h; exact h))
  generalize hT : ok_ExchangesOf ls = okT at *
  generalize res_FacesOf ls = FS at *
  generalize res_ExchangesOf ls = AL at *
  generalize res_CountExchanges ls = ctE at *
  go_upto_if 131 with fail
  go_cut [] (fun wx => Hid (Below w12.heap.size w12 wx))
  case first =>
    as_aux_lemma =>
      have D : Hid (Below w12.heap.size w12 w12) := Below.refl _ _
      cases okT with
      | false =>
        go_wp2_with fail
        go_meet
        case rel => exact D.out
      | true =>
        obtain ⟨m, f1, f2, f3, f4, f5, f6, f7⟩ := FT0.out rfl
        subst f6
        have FO := Lib.hid (FO0.out rfl); have FE := Lib.hid (FE0.out rfl)
        clear FT0 FO0 FE0 hT
        have FC := Lib.hid (choose_le FS f7); have F7 := Lib.hid f7; have F1 := Lib.hid f1; have F3 := Lib.hid f3; have F4 := Lib.hid f4; have F5 := Lib.hid f5; have F2 := Lib.hid f2
        have FT := Lib.hid (tot_take_le FS); have FS1 := Lib.hid (tot_take_succ FS); have FS2 := Lib.hid (choose_take FS)
        clear f1 f2 f3 f4 f5 f7
        have hal := O_al.out.form
        obtain ⟨_, _, e9, hal1, hal2⟩ := hal
        simp only [Value.slice.injEq] at e9
        obtain ⟨-, -, rfl⟩ := e9
        unfold maxLen at hal2
        have hal := O_fc.out.form
        obtain ⟨_, _, e9, hfc1, hfc2⟩ := hal
        simp only [Value.slice.injEq] at e9
        obtain ⟨-, -, rfl⟩ := e9
        unfold maxLen at hfc2
        go_wp2_with fail
        go_loopw [23, 24, 134] (fun i0 i1 i2 wr => ∃ k : Nat, k ≤ FS.length ∧ i2 = .int .i64 (k : Int) ∧ i0 = .int .i64 ((chooseL (FS.take k) : Nat) : Int) ∧ i1 = .int .i64 ((tot (FS.take k) : Nat) : Int) ∧ Hid (Below w12.heap.size w12 wr)) (fun i0 i1 i2 _ => FS.length - (intOf i2).toNat)
        case atStart => exact ⟨0, by omega, rfl, by simp [chooseL], by simp [tot], Below.refl _ _⟩
        case round =>
          obtain ⟨k, hk, rfl, rfl, rfl, HB⟩ := hrel
          have hb := HB.out
          generalize wr = w13 at *
          replace O_p := Lib.hid (Own.below O_p.out hb)
          replace O_q := Lib.hid (Own.below O_q.out hb)
          replace O_s := Lib.hid (Own.below O_s.out hb)
          replace O_al := Lib.hid (OwnLL.below O_al.out hb)
          replace O_fc := Lib.hid (OwnLL.below O_fc.out hb)
          replace Y1 := Lib.hid (RdY.below Y1.out hb); replace Y2 := Lib.hid (RdY.below Y2.out hb)
          replace D := Lib.hid (Below.step D.out hb)
          clear hb
          by_cases hlt : k < FS.length
          · obtain ⟨gf, rfl, _, _, hcell, _⟩ := O_fc.out.at (by omega)
            have hc1 := hcell k hlt
            have hrow := (O_fc.out.own k hlt).rd
            have hmem : FS.getD k [] ∈ FS := by simp [List.getD, hlt]
            have h12 := F7.out _ hmem
            have hs1 := FS1.out k hlt
            have hs2 := FS2.out k hlt
            have hb1 := FC.out k (by omega)
            have hb2 := FT.out k
            have hn7 : FS.length ≤ 7 := by have := F3.out; have := F2.out; omega
            have htt := F4.out
            obtain ⟨f, hf⟩ : ∃ f, FS.getD k [] = f := ⟨_, rfl⟩
            rw [hf] at hrow h12 hs1 hs2
            obtain ⟨fa, fcc, e2, _⟩ := hrow
            rw [e2] at hc1
            obtain ⟨p1, p2, p3⟩ := law_prod h12
            have HS1 := Lib.hid hs1; have HS2 := Lib.hid hs2; have HP3 := Lib.hid p3
            have hsl : ls.length ≤ 14 := LS.out
            clear hcell hmem hs1 hs2 e2 hf
            generalize f.length = L at *
            generalize chooseL (FS.take k) = cp at *
            generalize tot (FS.take k) = ct at *
            have q1 : 0 ≤ (L : Int) * ((L : Int) - 1) / 2 := by omega
            have q2 : (L : Int) * ((L : Int) - 1) / 2 ≤ 66 := by omega
            have hlt2 : (k : Int) < (FS.length : Int) := by omega
            have w1 : IntKind.i64.wrap ((L : Int) - 1) = (L : Int) - 1 := IntWalk.i64_in _ (by omega)
            have w2 : IntKind.i64.wrap ((L : Int) * ((L : Int) - 1)) = (L : Int) * ((L : Int) - 1) := IntWalk.i64_in _ (by omega)
            have w3 : IntKind.i64.wrap ((L : Int) * ((L : Int) - 1) / 2) = (L : Int) * ((L : Int) - 1) / 2 := IntWalk.i64_in _ (by omega)
            have w4 : IntKind.i64.wrap ((cp : Int) + (L : Int) * ((L : Int) - 1) / 2) = (cp : Int) + (L : Int) * ((L : Int) - 1) / 2 := IntWalk.i64_in _ (by omega)
            have w5 : IntKind.i64.wrap ((ct : Int) + (L : Int)) = (ct : Int) + (L : Int) := IntWalk.i64_in _ (by omega)
            have w6 : IntKind.i64.wrap ((k : Int) + 1) = (k : Int) + 1 := IntWalk.i64_in _ (by omega)
            clear p3
            go_wp2_with fail
            go_roundw
            case rel => exact ⟨k + 1, by omega, by go_num, by rw [HS2.out, HP3.out]; go_num, by rw [HS1.out]; go_num, HB.out⟩
            case measure => simp [intOf]; omega
          · obtain rfl : k = FS.length := by omega
            have hlt2 : ¬ (FS.length : Int) < (FS.length : Int) := by omega
            rw [List.take_length, F5.out, F4.out]
            have hh := F1.out
            have w1 : IntKind.i64.wrap ((ls.length : Int) / 2) = (ls.length : Int) / 2 := IntWalk.i64_in _ (by omega)
            have w2 : IntKind.i64.wrap ((ls.length : Int) / 2 + 1) = (ls.length : Int) / 2 + 1 := IntWalk.i64_in _ (by omega)
            have w3 : ((FS.length : Int) != (ls.length : Int) / 2 + 1) = false := by rw [F1.out, F3.out]; simp
            clear HB hh FS1 FS2 FC FT F7
            as_aux_lemma =>
            clear O_fc
            go_wp2_with fail
            go_loopw [178] (fun i0 wr => ∃ k : Nat, k ≤ AL.length ∧ i0 = .int .i64 (k : Int) ∧ Hid (Below w13.heap.size w13 wr)) (fun i0 _ => AL.length - (intOf i0).toNat)
            case atStart => exact ⟨0, by omega, rfl, Below.refl _ _⟩
            case round =>
              obtain ⟨k, hk, rfl, HB⟩ := hrel
              clear hlt2 w1 w2 w3
              have hb := HB.out
              generalize wr = w14 at *
              replace O_p := Lib.hid (Own.below O_p.out hb)
              replace O_q := Lib.hid (Own.below O_q.out hb)
              replace O_s := Lib.hid (Own.below O_s.out hb)
              replace O_al := Lib.hid (OwnLL.below O_al.out hb)
              replace Y1 := Lib.hid (RdY.below Y1.out hb); replace Y2 := Lib.hid (RdY.below Y2.out hb)
              replace D := Lib.hid (Below.step D.out hb)
              clear hb
              by_cases hlt : k < AL.length
              · obtain ⟨g1, rfl, _, _, hcell, _⟩ := O_al.out.at (by omega)
                have hc1 := hcell k hlt
                obtain ⟨f1, f2, f3⟩ := FE.out k hlt
                have HRD := Lib.hid (O_al.out.own k hlt).rd
                have HCL := Lib.hid hcell
                have hlt2 : (k : Int) < (AL.length : Int) := by omega
                have hwk : IntKind.i64.wrap ((k : Int) + 1) = (k : Int) + 1 := IntWalk.i64_in _ (by omega)
                obtain ⟨q, hq⟩ : ∃ q, AL.getD k [] = q := ⟨_, rfl⟩
                rw [hq] at f1 f2 f3 HRD
                have HQ := Lib.hid hq; have HF1 := Lib.hid f1; have HF2 := Lib.hid f2; have HF3 := Lib.hid f3
                obtain ⟨qa, qc, e2, _⟩ := HRD.out
                rw [e2] at hc1 HRD
                clear e2 hq f1 f2 f3 hcell
                go_wp2_with fail
                refine (impl_ExchangeDistance ls q _ _ _ O_s.out.rd HRD.out (by have := LS.out; omega) (by have := HF3.out; have := LS.out; omega)).mono ?_
                rintro e w40 ⟨rfl, hb⟩
                rw [HF1.out, HF2.out]
                have HB2 := Lib.hid (Below.step HB.out hb)
                cases k with
                | zero =>
                  clear hb
                  go_wp2_with fail
                  go_roundw
                  case rel => exact ⟨1, by omega, by go_num, HB2.out⟩
                  case measure => simp [intOf]; omega
                | succ j =>
                  have hc2 := HCL.out j (by omega)
                  have hcj : w40.cell? ⟨g1, j, none⟩ = some (rowV vs_al j) := (hb.cell (p := ⟨g1, j, none⟩) (World.block_lt_of_cell? _ _ hc2)).trans hc2
                  have HRJ := Lib.hid ((O_al.out.own j (by omega)).rd.below hb)
                  obtain ⟨_, _, f6⟩ := FE.out j (by omega)
                  have f7 := FO.out j hlt
                  rw [HQ.out] at f7
                  obtain ⟨pj, hpj⟩ : ∃ pj, AL.getD j [] = pj := ⟨_, rfl⟩
                  rw [hpj] at f6 f7 HRJ
                  obtain ⟨pa', pc', e3, _⟩ := HRJ.out
                  rw [e3] at hcj HRJ
                  have HF6 := Lib.hid f6; have HRQ := Lib.hid (HRD.out.below hb)
                  have hj1 : IntKind.i64.wrap ((j : Int) + 1 - 1) = (j : Int) := by rw [show (j : Int) + 1 - 1 = (j : Int) by omega]; exact IntWalk.i64_in _ (by omega)
                  have hj2 : (0 : Int) < (j : Int) + 1 := by omega
                  have hj3 : (j : Int) < (AL.length : Int) := by omega
                  have HF7 := Lib.hid f7
                  clear hb e3 hpj f6 f7 hc2
                  go_wp2_with fail
                  refine (sLess_any _ _ pj q _ HRJ.out HRQ.out (by have := HF6.out; have := HF3.out; omega)).mono ?_
                  rintro e w41 ⟨rfl, hb⟩
                  rw [HF7.out]
                  have HB3 := Lib.hid (Below.step HB2.out hb)
                  clear hb
                  go_wp2_with fail
                  go_roundw
                  case rel => exact ⟨j + 1 + 1, by omega, by go_num, HB3.out⟩
                  case measure => simp [intOf]; omega
              · obtain rfl : k = AL.length := by omega
                have hlt2 : ¬ (AL.length : Int) < (AL.length : Int) := by omega
                go_wp2_with fail
                go_meet
                case rel => exact D.out
  case rest =>
  as_aux_lemma =>
  have hb := hcut.out; clear hcut
  generalize wc = w15 at *
  replace O_p := Lib.hid (Own.below O_p.out hb)
  replace O_q := Lib.hid (Own.below O_q.out hb)
  replace O_s := Lib.hid (Own.below O_s.out hb)
  replace O_al := Lib.hid (OwnLL.below O_al.out hb)
  replace O_fc := Lib.hid (OwnLL.below O_fc.out hb)
  replace Y1 := Lib.hid (RdY.below Y1.out hb); replace Y2 := Lib.hid (RdY.below Y2.out hb)
  replace C := Lib.hid (Below.step C.out hb)
  clear hb
  clear hT FT0 FO0 FE0
  clear O_al
  clear O_fc
  clear O_s
  generalize hT : ok_ExchangeAt lp x y = okT at *
  cases okT with
  | false =>
    go_wp2_with fail
    go_ret
    exact ⟨rfl, C.out⟩
  | true =>
    obtain ⟨f1, f2, f3, f4, f5, f6⟩ := law_one hT
    obtain ⟨m, h1, h2, h3, h4, h5⟩ := law_rows f1
    have F1 := Lib.hid f1; have F2 := Lib.hid f2; have F3 := Lib.hid f3; have F4 := Lib.hid f4; have F5 := Lib.hid f5; have F6 := Lib.hid f6; have H1 := Lib.hid h1; have H2 := Lib.hid h2; have H3 := Lib.hid h3; have H4 := Lib.hid h4; have H5 := Lib.hid h5
    have SB := Lib.hid (sign_bd (res_ExchangeAt lp x y))
    clear f1 f2 f3 f4 f5 f6 h1 h2 h3 h4 h5 hT
    have e9 := O_p.out.form
    obtain ⟨_, _, e9, hlc_p, hcm_p⟩ := e9
    simp only [Value.slice.injEq] at e9
    obtain ⟨-, rfl, rfl⟩ := e9
    unfold maxLen at hcm_p
    go_wp2_with fail
    rw [H1.out]
    refine (impl_AllSystems (m : Int) _).mono ?_
    rintro e w16 ⟨v_sy, vs_sy, rfl, ho, hb⟩
    obtain ⟨sya, syc, rfl, _⟩ := ho.form
    replace O_p := Lib.hid (Own.below O_p.out hb)
    replace O_q := Lib.hid (Own.below O_q.out hb)
    replace Y1 := Lib.hid (RdY.below Y1.out hb); replace Y2 := Lib.hid (RdY.below Y2.out hb)
    replace C := Lib.hid (Below.step C.out hb)
    clear hb
    have O_sy := Lib.hid ho; clear ho
    rw [H2.out]
    go_wp2_with fail
    refine (impl_ExchangesOf (res_ExchangeAt lp x y) _ _ O_q.out.rd L_q.out).mono ?_
    rintro e w17 ⟨v_bk, vs_bk, rfl, ho, hb⟩
    obtain ⟨bka, bkc, rfl, _⟩ := ho.form
    replace O_p := Lib.hid (Own.below O_p.out hb)
    replace O_q := Lib.hid (Own.below O_q.out hb)
    replace O_sy := Lib.hid (OwnLL.below O_sy.out hb)
    replace Y1 := Lib.hid (RdY.below Y1.out hb); replace Y2 := Lib.hid (RdY.below Y2.out hb)
    replace C := Lib.hid (Below.step C.out hb)
    clear hb
    have O_bk := Lib.hid ho; clear ho
    rw [show ok_ExchangesOf (res_ExchangeAt lp x y) = true from F2.out]
    go_wp2_with fail
    refine (impl_SignOf lp _ _ O_p.out.rd (by have := LP.out; omega)).mono ?_
    rintro e w18 ⟨rfl, hb⟩
    replace O_p := Lib.hid (Own.below O_p.out hb)
    replace O_q := Lib.hid (Own.below O_q.out hb)
    replace O_sy := Lib.hid (OwnLL.below O_sy.out hb)
    replace O_bk := Lib.hid (OwnLL.below O_bk.out hb)
    replace Y1 := Lib.hid (RdY.below Y1.out hb); replace Y2 := Lib.hid (RdY.below Y2.out hb)
    replace C := Lib.hid (Below.step C.out hb)
    clear hb
    rw [show ok_SignOf lp = true from F1.out, F5.out]
    go_wp2_with fail
    refine (impl_SignOf (res_ExchangeAt lp x y) _ _ O_q.out.rd L_q.out).mono ?_
    rintro e w19 ⟨rfl, hb⟩
    replace O_p := Lib.hid (Own.below O_p.out hb)
    replace O_q := Lib.hid (Own.below O_q.out hb)
    replace O_sy := Lib.hid (OwnLL.below O_sy.out hb)
    replace O_bk := Lib.hid (OwnLL.below O_bk.out hb)
    replace Y1 := Lib.hid (RdY.below Y1.out hb); replace Y2 := Lib.hid (RdY.below Y2.out hb)
    replace C := Lib.hid (Below.step C.out hb)
    clear hb
    rw [show ok_SignOf (res_ExchangeAt lp x y) = true from F2.out]
    go_wp2_with fail
    refine (impl_IsSystem (res_ExchangeAt lp x y) _ _ O_q.out.rd L_q.out).mono ?_
    rintro e w20 ⟨rfl, hb⟩
    replace O_p := Lib.hid (Own.below O_p.out hb)
    replace O_q := Lib.hid (Own.below O_q.out hb)
    replace O_sy := Lib.hid (OwnLL.below O_sy.out hb)
    replace O_bk := Lib.hid (OwnLL.below O_bk.out hb)
    replace Y1 := Lib.hid (RdY.below Y1.out hb); replace Y2 := Lib.hid (RdY.below Y2.out hb)
    replace C := Lib.hid (Below.step C.out hb)
    clear hb
    rw [show ok_IsSystem (res_ExchangeAt lp x y) = true from F2.out]
    go_wp2_with fail
    refine (sHas_yes _ _ _ _ _ _ lp _ O_bk.out O_p.out.rd F4.out).mono ?_
    rintro e w21 ⟨rfl, hb⟩
    replace O_p := Lib.hid (Own.below O_p.out hb)
    replace O_q := Lib.hid (Own.below O_q.out hb)
    replace O_sy := Lib.hid (OwnLL.below O_sy.out hb)
    replace O_bk := Lib.hid (OwnLL.below O_bk.out hb)
    replace Y1 := Lib.hid (RdY.below Y1.out hb); replace Y2 := Lib.hid (RdY.below Y2.out hb)
    replace C := Lib.hid (Below.step C.out hb)
    clear hb
    clear O_bk
    have sb := SB.out
    generalize res_SignOf (res_ExchangeAt lp x y) = sg at *
    have wn : IntKind.i64.wrap (-sg) = -sg := IntWalk.i64_in _ (by omega)
    generalize res_AllSystems (m : Int) = AL at *
    have hn2 : n1 ≤ 1048576 := HBIG.out.2
    go_wp2_with fail
    go_loopw [39] (fun i0 wr => ∃ k : Nat, k ≤ 6 ∧ i0 = .int .i64 (k : Int) ∧ Hid (Below w21.heap.size w21 wr)) (fun i0 _ => 6 - (intOf i0).toNat)
    case atStart => exact ⟨0, by omega, rfl, Below.refl _ _⟩
    case round =>
      obtain ⟨k, hk, rfl, HB⟩ := hrel
      clear wn sb
      have hb := HB.out
      generalize wr = w22 at *
      replace O_p := Lib.hid (Own.below O_p.out hb)
      replace O_q := Lib.hid (Own.below O_q.out hb)
      replace O_sy := Lib.hid (OwnLL.below O_sy.out hb)
      replace Y1 := Lib.hid (RdY.below Y1.out hb); replace Y2 := Lib.hid (RdY.below Y2.out hb)
      replace C := Lib.hid (Below.step C.out hb)
      clear hb
      by_cases hlt : k < 6
      · obtain ⟨ga, rfl, _, _, hcell, _⟩ := O_sy.out.at H3.out
        obtain ⟨N, hN⟩ : ∃ N, AL.length = N := ⟨_, rfl⟩
        have hN0 : 0 < N := by have := H3.out; omega
        have hj : (k * 11 + n1) % N < N := Nat.mod_lt _ hN0
        obtain ⟨j, hjj⟩ : ∃ j, (k * 11 + n1) % N = j := ⟨_, rfl⟩
        have hjl : j < AL.length := by omega
        have hcj := hcell j hjl
        obtain ⟨f1, f2⟩ := H5.out j hjl
        have HRD := Lib.hid (O_sy.out.own j hjl).rd
        obtain ⟨s, hs⟩ : ∃ s, AL.getD j [] = s := ⟨_, rfl⟩
        rw [hs] at f1 f2 HRD
        obtain ⟨sa, sc, e2, _⟩ := HRD.out
        rw [e2] at hcj HRD
        have HO2 := Lib.hid (F6.out s f1 f2)
        have hk6 : (k : Int) < 6 := by omega
        have hm1 : IntKind.i64.wrap ((k : Int) * 11) = (k : Int) * 11 := IntWalk.i64_in _ (by omega)
        have hm2 : IntKind.i64.wrap ((k : Int) * 11 + (n1 : Int)) = (k : Int) * 11 + (n1 : Int) := IntWalk.i64_in _ (by omega)
        have h9 : ((k * 11 + n1 : Nat) : Int) = (k : Int) * 11 + (n1 : Int) := by omega
        have hm7 : ((k : Int) * 11 + (n1 : Int)) % (AL.length : Int) = (j : Int) := by
          rw [hN, ← hjj]; first | rw [Int.natCast_emod, h9] | rw [Int.natCast_mod, h9] | rw [Int.ofNat_emod, h9]
        have hm3 : ((k : Int) * 11 + (n1 : Int)).tmod (AL.length : Int) = (j : Int) := by
          rw [Int.tmod_eq_emod_of_nonneg (by omega)]; exact hm7
        have hm4 : (j : Int) < (AL.length : Int) := by omega
        have hm5 : ((AL.length : Int) == 0) = false := beq_eq_false_iff_ne.2 (by omega)
        have hm6 : (AL.length : Int) ≠ 0 := by omega
        have HSL := Lib.hid (show s.length ≤ 1048576 by have := LP.out; omega)
        have HWK := Lib.hid (show IntKind.i64.wrap ((k : Int) + 1) = (k : Int) + 1 from IntWalk.i64_in _ (by omega))
        clear h9 hcell e2 hs f1 f2 hjj hN hj hjl hN0
        go_wp2_with fail
        refine (sCount_any (res_ExchangeAt lp x y) s _ _ _ O_q.out.rd HRD.out (by have := len_ExchangeAt lp x y; omega) HSL.out).mono ?_
        rintro e w51 ⟨rfl, hb⟩
        have HB1 := Lib.hid (Below.step HB.out hb); have HR1 := Lib.hid (HRD.out.below hb); have HP1 := Lib.hid (O_p.out.below hb)
        clear hb hm1 hm2 hm3 hm4 hm5 hm6 hm7
        go_wp2_with fail
        refine (sCount_any lp s _ _ _ HP1.out.rd HR1.out (by have := LP.out; omega) HSL.out).mono ?_
        rintro e w52 ⟨rfl, hb⟩
        have HB2 := Lib.hid (Below.step HB1.out hb)
        have c1 := ex_bd (res_ExchangeAt lp x y) s; have c2 := ex_bd lp s
        have ho2 := HO2.out
        clear hb HO2
        generalize res_ComponentsOf (res_ExchangeAt lp x y) s = A at *
        generalize res_ComponentsOf lp s = B at *
        have hw2 : IntKind.i64.wrap (A - B) = A - B := IntWalk.i64_in _ (by omega)
        have hwk := HWK.out
        obtain ⟨S, hS⟩ : ∃ S, A - B = S := ⟨_, rfl⟩
        rw [hS] at ho2 hw2
        clear c1 c2
        rcases ho2 with rfl | rfl
        · go_wp2_with fail
          go_roundw
          case rel => exact ⟨k + 1, by omega, by go_num, HB2.out⟩
          case measure => simp [intOf]; omega
        · go_wp2_with fail
          go_roundw
          case rel => exact ⟨k + 1, by omega, by go_num, HB2.out⟩
          case measure => simp [intOf]; omega
      · obtain rfl : k = 6 := by omega
        go_wp2_with fail
        go_ret
        exact ⟨rfl, C.out⟩
end Go.Proofs.Ytogjclmmjdhfeac

namespace Go.Proofs.Ytogjclmmjdhfeac.fnExchangesChangeByOne
open Go.ChangeShapes Go.WideShapes Go.ChangeAt Go.RowKit
set_option linter.unusedVariables false
set_option linter.unusedSimpArgs false

theorem own : ownKnob Try.prog.godebug = none := by kernel_rfl
theorem laidOut : laidOutB Try.prog = true := by kernel_rfl

set_option maxRecDepth 100000 in
theorem lifted (os : Os) (started : os.Started) (H : Type) (enc : TypeId × Value → H) :
    ReturnsInHanded {} Try.checked os 4 .any (Rows.fnExchangesChangeByOneSpec.pre6 enc Try.prog Try.f4 Rows.fnExchangesChangeByOneRow.domain false) (Rows.fnExchangesChangeByOneSpec.post enc Try.prog Try.f4 false true false false) := by
  refine returnsInHanded_of_change (C := Try.checked) own started (by kernel_rfl) Try.func4
    (ChangeSpec.witness6 (enc := enc) (C := Try.checked) false ⟨#[], #[.slice none 0 0, .slice none 0 0], []⟩ 8 (by kernel_rfl) (by kernel_rfl) (by kernel_rfl) (by kernel_rfl)) ?_
  intro W base args ds gs before hval0 hW hcnd _
  have hval : ∀ (j : Nat) t v, Try.f4.params[j]? = some t → args[j]? = some v → Value.okWide Try.prog W .any base t v := hval0
  have hW' := hW
  obtain ⟨p, q, hA0, hV, rfl, hfz, hnd⟩ := hW
  have hA : DataW.TrodAll enc Try.prog W 0 (fun _ => true) true Try.f4.params.toList args.toList ds p := hA0
  rw [Try.params4] at hA hval
  obtain ⟨v0, vs0, d0, ds0, p0, q0, hargs, rfl, rfl, h0, r0⟩ := trodAll_cons hA
  obtain ⟨v1, vs1, d1, ds1, p1, q1, rfl, rfl, rfl, h1, r1⟩ := trodAll_cons r0
  obtain ⟨rfl, rfl, rfl⟩ := trodAll_nil r1
  obtain rfl : args = #[v0, v1] := by cases args; simp_all
  obtain ⟨rfl, rfl⟩ := trodVars_none hV
  obtain ⟨a0, len0, cap0, rfl⟩ := okWide_slice Try.underlying22 (hval 0 22 v0 rfl rfl)
  have k0 := h0
  have lt0 : ∀ x ∈ p0, x.block < W.heap.size := by obtain ⟨m, hm⟩ := k0; exact DataW.trod_lt m _ _ _ hm
  obtain ⟨z0, w0⟩ : ∃ zs, RdY W (.slice a0 len0 cap0) zs := by
    obtain ⟨fuel, hf⟩ := h0
    rcases open_ints Try.underlying22 Try.underlying5 (by kernel_rfl) hf with ⟨hcs, _⟩ | ⟨x, l, c, zs, hcs, _, hl, hm, hz, _, hcell, hwz⟩
    · simp [Value.cells] at hcs
      obtain ⟨rfl, rfl, rfl⟩ := hcs
      exact ⟨[], rdY_nil W⟩
    · simp [Value.cells] at hcs
      obtain ⟨rfl, rfl, rfl⟩ := hcs
      exact ⟨zs.take _, rdY_row W x _ _ zs hl hm (by simpa using hz) hcell hwz⟩
  obtain ⟨a1, len1, cap1, rfl⟩ := okWide_slice Try.underlying22 (hval 1 22 v1 rfl rfl)
  have k1 := h1
  have lt1 : ∀ x ∈ p1, x.block < W.heap.size := by obtain ⟨m, hm⟩ := k1; exact DataW.trod_lt m _ _ _ hm
  obtain ⟨z1, w1⟩ : ∃ zs, RdY W (.slice a1 len1 cap1) zs := by
    obtain ⟨fuel, hf⟩ := h1
    rcases open_ints Try.underlying22 Try.underlying5 (by kernel_rfl) hf with ⟨hcs, _⟩ | ⟨x, l, c, zs, hcs, _, hl, hm, hz, _, hcell, hwz⟩
    · simp [Value.cells] at hcs
      obtain ⟨rfl, rfl, rfl⟩ := hcs
      exact ⟨[], rdY_nil W⟩
    · simp [Value.cells] at hcs
      obtain ⟨rfl, rfl, rfl⟩ := hcs
      exact ⟨zs.take _, rdY_row W x _ _ zs hl hm (by simpa using hz) hcell hwz⟩
  clear hA0 hval0
  refine (walk_ExchangesChangeByOne a0 len0 cap0 z0 a1 len1 cap1 z1 W w0 w1).mono fun e W' ⟨he, bel⟩ => ?_
  subst he
  exact ⟨_, rfl, _, _, _, [], _, [], hW', trodAll_mk1 (shut_bool Try.underlying4 _), (trodAll_cons_mk (Below.trod laidOut (by kernel_rfl) (of_decide_eq_true (by kernel_rfl)) k0 bel lt0) (trodAll_cons_mk (Below.trod laidOut (by kernel_rfl) (of_decide_eq_true (by kernel_rfl)) k1 bel lt1) trodAll_mk0)), rfl, bel.frame _, fun h => by cases h⟩

theorem over : Rows.fnExchangesChangeByOneRow.holds Try.pinned (OpenSpec.ofChange Rows.fnExchangesChangeByOneSpec) :=
  OpenClaim.holds_of_wide 4 Try.f4 rfl rfl rfl rfl rfl rfl rfl ⟨rfl, rfl, rfl, rfl, rfl⟩ rfl rfl rfl rfl rfl (by kernel_rfl) Try.func4 (by kernel_rfl)
    (of_decide_eq_true (by kernel_rfl)) (by unfold Func.isWrapper; first | (rw [if_pos (by decide +kernel)]; kernel_rfl) | (rw [if_neg (by decide +kernel)]; exact ⟨rfl, rfl⟩))
    (fun os started H enc _ => lifted os started H enc)

theorem proved : Rows.FnExchangesChangeByOneSaid := over
#print axioms proved
end Go.Proofs.Ytogjclmmjdhfeac.fnExchangesChangeByOne
