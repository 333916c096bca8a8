/- The law FnArchesPut returns true on any two byte slices: arches that are dropped are put back, and outer, small and deep ones are told. No condition. -/
import Derived.Test.YtbinpefogecgmaaRows
import Derived.ProofKit
import Derived.OpenShut
import Derived.ShutString
import Derived.ChangeOld
import Derived.Below
import Derived.Lib.SmallJoins
import Derived.Deep.DeepCutAuto
import Derived.Deep.CutBlock
import Derived.Test.YtbinpefogecgmaaSame
import Derived.Test.YtbinpefogecgmaaBig
import Derived.Test.YtbinpefogecgmaaDrawB
import Derived.Test.YtbinpefogecgmaaArchF
import Derived.Test.YtbinpefogecgmaaIsSystem
import Derived.Test.YtbinpefogecgmaaSpecPut
namespace Go.Proofs.Ytbinpefogecgmaa
open Go.RowKit
set_option linter.unusedSimpArgs false
set_option linter.unusedVariables false

theorem law_begins {l : List Int} {t : Nat} (hb : (t : Int) < l.getD t 0) : beginsB l (t : Int) = true := by unfold beginsB; rw [Int.toNat_natCast]; exact decide_eq_true hb
theorem law_begins0 {l : List Int} {t : Nat} (hb : ¬ (t : Int) < l.getD t 0) : beginsB l (t : Int) = false := by unfold beginsB; rw [Int.toNat_natCast]; exact decide_eq_false hb
theorem law_where1 {c : Int → Bool} {t : Nat} (h : c (t : Int) = true) : (whereL c (t + 1)).length = (whereL c t).length + 1 := by rw [whereL, if_pos h]; simp
theorem law_where0 {c : Int → Bool} {t : Nat} (h : c (t : Int) = false) : (whereL c (t + 1)).length = (whereL c t).length := by rw [whereL, h]; simp
theorem law_depth {l : List Int} {t : Nat} (ht : t < l.length) (hb : (t : Int) < l.getD t 0) : (whereL (beginsB l) t).length < (depthsI l).length ∧ (depthsI l).getD (whereL (beginsB l) t).length 0 = (overN l (t : Int) t : Int) := by
  have h := whereL_at (beginsB l) l.length t ht (law_begins hb)
  unfold depthsI
  refine ⟨by rw [List.length_map]; exact h.1, ?_⟩
  have h2 := h.2
  simp only [List.getD, List.getElem?_map, List.getElem?_eq_getElem h.1, Option.getD_some, Option.map_some] at h2 ⊢
  rw [h2, Int.toNat_natCast]
theorem law_outer {l : List Int} {t : Nat} (ht : t < l.length) (hb : (t : Int) < l.getD t 0) (h0 : overN l (t : Int) t = 0) : isOuterB l (t : Int) = true ∧ (whereL (isOuterB l) t).length < (whereL (isOuterB l) l.length).length ∧ (whereL (isOuterB l) l.length).getD (whereL (isOuterB l) t).length 0 = (t : Int) := by
  have h : isOuterB l (t : Int) = true := by unfold isOuterB; rw [law_begins hb, Int.toNat_natCast, h0]; rfl
  exact ⟨h, whereL_at (isOuterB l) l.length t ht h⟩
theorem law_outer0 {l : List Int} {t : Nat} (h : ¬ (t : Int) < l.getD t 0 ∨ overN l (t : Int) t ≠ 0) : isOuterB l (t : Int) = false := by
  unfold isOuterB
  rcases h with h | h
  · rw [law_begins0 h]; rfl
  · rw [Int.toNat_natCast, decide_eq_false h, Bool.and_false]

set_option maxHeartbeats 8000000 in
set_option maxRecDepth 100000 in
theorem walk_ArchesPut (b0 : Option Addr) (n0 c0 : Nat) (l1 : List Int) (b1 : Option Addr) (n1 c1 : Nat) (l2 : List Int) (w : World) (y1 : RdY w (.slice b0 n0 c0) l1) (y2 : RdY w (.slice b1 n1 c1) l2) :
    Calls Try.prog 5 #[.slice b0 n0 c0, .slice b1 n1 c1] w (Good w) := by
  have Y1 := Lib.hid y1; have Y2 := Lib.hid y2; clear y1 y2
  have C : Hid (Below w.heap.size w w) := Below.refl _ _
  have HIF : Hid (∀ b : Bool, b = true ∨ b = false) := fun b => by cases b <;> simp
  go_enter Try.func5, Try.ntmps5
  go_wp2_with fail
  refine (big_any _ _ _ l1 _ _ _ l2 _ Y1.out Y2.out).mono ?_
  rintro e w0 ⟨b, rfl, rfl⟩
  rcases HIF.out b with rfl | rfl
  · go_wp2
    go_ret
    exact ⟨rfl, C.out⟩
  go_wp2_with fail
  refine (drawDropArch_any _ l1 _ Y1.out).mono ?_
  rintro e w1 ⟨v_p, lp, i, rfl, ho, hl, hx, hb⟩
  obtain ⟨pa, pn, pc, rfl⟩ := ho.form'
  have LP := Lib.hid hl; clear hl hx
  replace Y1 := Lib.hid (RdY.below Y1.out hb); replace Y2 := Lib.hid (RdY.below Y2.out hb)
  replace C := Lib.hid (Below.step C.out hb)
  clear hb
  have O_p := Lib.hid ho; clear ho
  go_wp2_with fail
  refine (impl_DropArch lp i _ _ O_p.out.rd (by have := LP.out; omega)).mono ?_
  rintro e w2 ⟨v_q, rfl, ho, hb⟩
  obtain ⟨qa, qn, qc, rfl⟩ := ho.form'
  replace O_p := Lib.hid (Own.below O_p.out hb)
  replace Y1 := Lib.hid (RdY.below Y1.out hb); replace Y2 := Lib.hid (RdY.below Y2.out hb)
  replace C := Lib.hid (Below.step C.out hb)
  clear hb
  have O_q := Lib.hid ho; clear ho
  go_wp2_with fail
  refine (spec_DropArch lp i _ _ O_p.out.rd (by have := LP.out; omega)).mono ?_
  rintro e w3 ⟨v_r, rfl, ho, hb⟩
  obtain ⟨ra, rn, rc, rfl⟩ := ho.form'
  replace O_p := Lib.hid (Own.below O_p.out hb)
  replace O_q := Lib.hid (Own.below O_q.out hb)
  replace Y1 := Lib.hid (RdY.below Y1.out hb); replace Y2 := Lib.hid (RdY.below Y2.out hb)
  replace C := Lib.hid (Below.step C.out hb)
  clear hb
  have O_r := Lib.hid ho; clear ho
  go_wp2_with fail
  refine (sSame_yes _ _ _ _ _ O_q.out.rd O_r.out.rd rfl).mono ?_
  rintro e w4 ⟨rfl, hb⟩
  replace O_p := Lib.hid (Own.below O_p.out hb)
  replace O_q := Lib.hid (Own.below O_q.out hb)
  replace O_r := Lib.hid (Own.below O_r.out hb)
  replace Y1 := Lib.hid (RdY.below Y1.out hb); replace Y2 := Lib.hid (RdY.below Y2.out hb)
  replace C := Lib.hid (Below.step C.out hb)
  clear hb
  clear O_r
  generalize hT : ok_DropArch lp i = okT at *
  go_upto_if 73 with fail
  go_cut [] (fun wx => Hid (Below w4.heap.size w4 wx))
  case first =>
    as_aux_lemma =>
      have D : Hid (Below w4.heap.size w4 w4) := Below.refl _ _
      cases okT with
      | false =>
        go_wp2_with fail
        go_meet
        case rel => exact D.out
      | true =>
        obtain ⟨t, ht, htl, f1, f2⟩ := law_drop hT
        have F2 := Lib.hid f2; clear f2 hT
        subst ht
        obtain ⟨gp, e1, hcp⟩ := O_p.out.get t htl
        subst e1
        have e2 := O_p.out.form
        obtain ⟨_, _, e2, hlc, hcm⟩ := e2
        simp only [Value.slice.injEq] at e2
        obtain ⟨-, rfl, rfl⟩ := e2
        unfold maxLen at hcm
        have hti : (t : Int) < (lp.length : Int) := by omega
        have htj : (0 : Int) ≤ (t : Int) := by omega
        generalize lp.getD t 0 = z at *
        go_wp2_with fail
        refine (impl_PutArch (res_DropArch lp (t : Int)) (t : Int) z _ _ O_q.out.rd (Nat.le_trans (len_DropArch lp _) (by omega))).mono ?_
        rintro e w5 ⟨v_bk, rfl, ho, hb⟩
        obtain ⟨bka, bkn, bkc, rfl⟩ := ho.form'
        rw [f1]
        replace O_p := Lib.hid (Own.below O_p.out hb)
        replace O_q := Lib.hid (Own.below O_q.out hb)
        replace Y1 := Lib.hid (RdY.below Y1.out hb); replace Y2 := Lib.hid (RdY.below Y2.out hb)
        replace D := Lib.hid (Below.step D.out hb)
        clear hb
        have O_bk := Lib.hid ho; clear ho
        go_wp2_with fail
        refine (sSame_yes _ _ _ _ _ O_bk.out.rd O_p.out.rd F2.out).mono ?_
        rintro e w6 ⟨rfl, hb⟩
        replace O_p := Lib.hid (Own.below O_p.out hb)
        replace O_q := Lib.hid (Own.below O_q.out hb)
        replace O_bk := Lib.hid (Own.below O_bk.out hb)
        replace Y1 := Lib.hid (RdY.below Y1.out hb); replace Y2 := Lib.hid (RdY.below Y2.out hb)
        replace D := Lib.hid (Below.step D.out hb)
        clear hb
        go_wp2_with fail
        go_meet
        case rel => exact D.out
  case rest =>
  as_aux_lemma =>
  have hb := hcut.out; clear hcut
  generalize wc = w7 at *
  replace O_p := Lib.hid (Own.below O_p.out hb)
  replace O_q := Lib.hid (Own.below O_q.out hb)
  replace Y1 := Lib.hid (RdY.below Y1.out hb); replace Y2 := Lib.hid (RdY.below Y2.out hb)
  replace C := Lib.hid (Below.step C.out hb)
  clear hb
  clear hT
  clear O_p
  clear O_q
  go_wp2_with fail
  refine (drawPutArch_any _ l2 _ Y2.out).mono ?_
  rintro e w8 ⟨v_p, lq, a, c, rfl, ho, hl, hx, hy, hb⟩
  obtain ⟨pa, pn, pc, rfl⟩ := ho.form'
  have LQ := Lib.hid hl; clear hl hx hy
  replace Y1 := Lib.hid (RdY.below Y1.out hb); replace Y2 := Lib.hid (RdY.below Y2.out hb)
  replace C := Lib.hid (Below.step C.out hb)
  clear hb
  have O_p := Lib.hid ho; clear ho
  go_wp2_with fail
  refine (impl_PutArch lq a c _ _ O_p.out.rd (by have := LQ.out; omega)).mono ?_
  rintro e w9 ⟨v_q, rfl, ho, hb⟩
  obtain ⟨qa, qn, qc, rfl⟩ := ho.form'
  replace O_p := Lib.hid (Own.below O_p.out hb)
  replace Y1 := Lib.hid (RdY.below Y1.out hb); replace Y2 := Lib.hid (RdY.below Y2.out hb)
  replace C := Lib.hid (Below.step C.out hb)
  clear hb
  have O_q := Lib.hid ho; clear ho
  go_wp2_with fail
  refine (spec_PutArch lq a c _ _ O_p.out.rd (by have := LQ.out; omega)).mono ?_
  rintro e w10 ⟨v_r, rfl, ho, hb⟩
  obtain ⟨ra, rn, rc, rfl⟩ := ho.form'
  replace O_p := Lib.hid (Own.below O_p.out hb)
  replace O_q := Lib.hid (Own.below O_q.out hb)
  replace Y1 := Lib.hid (RdY.below Y1.out hb); replace Y2 := Lib.hid (RdY.below Y2.out hb)
  replace C := Lib.hid (Below.step C.out hb)
  clear hb
  have O_r := Lib.hid ho; clear ho
  go_wp2_with fail
  refine (sSame_yes _ _ _ _ _ O_q.out.rd O_r.out.rd rfl).mono ?_
  rintro e w11 ⟨rfl, hb⟩
  replace O_p := Lib.hid (Own.below O_p.out hb)
  replace O_q := Lib.hid (Own.below O_q.out hb)
  replace O_r := Lib.hid (Own.below O_r.out hb)
  replace Y1 := Lib.hid (RdY.below Y1.out hb); replace Y2 := Lib.hid (RdY.below Y2.out hb)
  replace C := Lib.hid (Below.step C.out hb)
  clear hb
  clear O_r
  generalize hT : ok_PutArch lq a c = okT at *
  go_upto_if 121 with fail
  go_cut [] (fun wx => Hid (Below w11.heap.size w11 wx))
  case first =>
    as_aux_lemma =>
      have D : Hid (Below w11.heap.size w11 w11) := Below.refl _ _
      cases okT with
      | false =>
        go_wp2_with fail
        go_meet
        case rel => exact D.out
      | true =>
        obtain ⟨t, ht, htl, f1, f2, f3⟩ := law_put hT
        have F2 := Lib.hid f2; have F3 := Lib.hid f3; clear f2 f3 hT
        subst ht
        go_wp2_with fail
        refine (impl_DropArch (res_PutArch lq (t : Int) c) (t : Int) _ _ O_q.out.rd (Nat.le_trans (len_PutArch lq _ _) (by omega))).mono ?_
        rintro e w12 ⟨v_bk, rfl, ho, hb⟩
        obtain ⟨bka, bkn, bkc, rfl⟩ := ho.form'
        rw [f1]
        replace O_p := Lib.hid (Own.below O_p.out hb)
        replace O_q := Lib.hid (Own.below O_q.out hb)
        replace Y1 := Lib.hid (RdY.below Y1.out hb); replace Y2 := Lib.hid (RdY.below Y2.out hb)
        replace D := Lib.hid (Below.step D.out hb)
        clear hb
        have O_bk := Lib.hid ho; clear ho
        obtain ⟨gp, e1, hcp⟩ := O_q.out.get t htl
        subst e1
        have e2 := O_q.out.form
        obtain ⟨_, _, e2, hlc, hcm⟩ := e2
        simp only [Value.slice.injEq] at e2
        obtain ⟨-, rfl, rfl⟩ := e2
        unfold maxLen at hcm
        have hti : (t : Int) < ((res_PutArch lq (t : Int) c).length : Int) := by omega
        have htj : (0 : Int) ≤ (t : Int) := by omega
        rw [F3.out] at hcp
        have HCP : Hid (∀ w', Below w12.heap.size w12 w' → w'.cell? ⟨gp, t, none⟩ = some (.int .i64 c)) := fun w' h => (h.cell (p := ⟨gp, t, none⟩) (World.block_lt_of_cell? _ _ hcp)).trans hcp
        go_wp2_with fail
        refine (sSame_yes _ _ _ _ _ O_bk.out.rd O_p.out.rd F2.out).mono ?_
        rintro e w13 ⟨rfl, hb⟩
        have hcp2 := HCP.out _ hb
        replace O_p := Lib.hid (Own.below O_p.out hb)
        replace O_q := Lib.hid (Own.below O_q.out hb)
        replace O_bk := Lib.hid (Own.below O_bk.out hb)
        replace Y1 := Lib.hid (RdY.below Y1.out hb); replace Y2 := Lib.hid (RdY.below Y2.out hb)
        replace D := Lib.hid (Below.step D.out hb)
        clear hb
        go_wp2_with fail
        go_meet
        case rel => exact D.out
  case rest =>
  as_aux_lemma =>
  have hb := hcut.out; clear hcut
  generalize wc = w14 at *
  replace O_p := Lib.hid (Own.below O_p.out hb)
  replace O_q := Lib.hid (Own.below O_q.out hb)
  replace Y1 := Lib.hid (RdY.below Y1.out hb); replace Y2 := Lib.hid (RdY.below Y2.out hb)
  replace C := Lib.hid (Below.step C.out hb)
  clear hb
  clear hT
  clear O_p
  clear O_q
  go_wp2_with fail
  refine (drawDepthsOf_any _ l2 _ Y2.out).mono ?_
  rintro e w15 ⟨v_s, ls, rfl, ho, hl, hb⟩
  obtain ⟨sa, sn, sc, rfl⟩ := ho.form'
  have LS := Lib.hid hl; clear hl
  replace Y1 := Lib.hid (RdY.below Y1.out hb); replace Y2 := Lib.hid (RdY.below Y2.out hb)
  replace C := Lib.hid (Below.step C.out hb)
  clear hb
  have O_s := Lib.hid ho; clear ho
  go_wp2_with fail
  refine (impl_DepthsOf ls _ _ O_s.out.rd (by have := LS.out; omega)).mono ?_
  rintro e w16 ⟨v_d, rfl, ho, hb⟩
  obtain ⟨da, dn, dc, rfl⟩ := ho.form'
  replace O_s := Lib.hid (Own.below O_s.out hb)
  replace Y1 := Lib.hid (RdY.below Y1.out hb); replace Y2 := Lib.hid (RdY.below Y2.out hb)
  replace C := Lib.hid (Below.step C.out hb)
  clear hb
  have O_d := Lib.hid ho; clear ho
  go_wp2_with fail
  refine (spec_DepthsOf ls _ _ O_s.out.rd (by have := LS.out; omega)).mono ?_
  rintro e w17 ⟨v_dw, rfl, ho, hb⟩
  obtain ⟨dwa, dwn, dwc, rfl⟩ := ho.form'
  replace O_s := Lib.hid (Own.below O_s.out hb)
  replace O_d := Lib.hid (Own.below O_d.out hb)
  replace Y1 := Lib.hid (RdY.below Y1.out hb); replace Y2 := Lib.hid (RdY.below Y2.out hb)
  replace C := Lib.hid (Below.step C.out hb)
  clear hb
  have O_dw := Lib.hid ho; clear ho
  go_wp2_with fail
  refine (impl_OuterArches ls _ _ O_s.out.rd (by have := LS.out; omega)).mono ?_
  rintro e w18 ⟨v_o, rfl, ho, hb⟩
  obtain ⟨oa, on, oc, rfl⟩ := ho.form'
  replace O_s := Lib.hid (Own.below O_s.out hb)
  replace O_d := Lib.hid (Own.below O_d.out hb)
  replace O_dw := Lib.hid (Own.below O_dw.out hb)
  replace Y1 := Lib.hid (RdY.below Y1.out hb); replace Y2 := Lib.hid (RdY.below Y2.out hb)
  replace C := Lib.hid (Below.step C.out hb)
  clear hb
  have O_o := Lib.hid ho; clear ho
  go_wp2_with fail
  refine (spec_OuterArches ls _ _ O_s.out.rd (by have := LS.out; omega)).mono ?_
  rintro e w19 ⟨v_ow, rfl, ho, hb⟩
  obtain ⟨owa, own, owc, rfl⟩ := ho.form'
  replace O_s := Lib.hid (Own.below O_s.out hb)
  replace O_d := Lib.hid (Own.below O_d.out hb)
  replace O_dw := Lib.hid (Own.below O_dw.out hb)
  replace O_o := Lib.hid (Own.below O_o.out hb)
  replace Y1 := Lib.hid (RdY.below Y1.out hb); replace Y2 := Lib.hid (RdY.below Y2.out hb)
  replace C := Lib.hid (Below.step C.out hb)
  clear hb
  have O_ow := Lib.hid ho; clear ho
  go_wp2_with fail
  refine (impl_SmallArches ls _ _ O_s.out.rd (by have := LS.out; omega)).mono ?_
  rintro e w20 ⟨v_m, rfl, ho, hb⟩
  obtain ⟨ma, mn, mc, rfl⟩ := ho.form'
  replace O_s := Lib.hid (Own.below O_s.out hb)
  replace O_d := Lib.hid (Own.below O_d.out hb)
  replace O_dw := Lib.hid (Own.below O_dw.out hb)
  replace O_o := Lib.hid (Own.below O_o.out hb)
  replace O_ow := Lib.hid (Own.below O_ow.out hb)
  replace Y1 := Lib.hid (RdY.below Y1.out hb); replace Y2 := Lib.hid (RdY.below Y2.out hb)
  replace C := Lib.hid (Below.step C.out hb)
  clear hb
  have O_m := Lib.hid ho; clear ho
  go_wp2_with fail
  refine (spec_SmallArches ls _ _ O_s.out.rd (by have := LS.out; omega)).mono ?_
  rintro e w21 ⟨v_mw, rfl, ho, hb⟩
  obtain ⟨mwa, mwn, mwc, rfl⟩ := ho.form'
  replace O_s := Lib.hid (Own.below O_s.out hb)
  replace O_d := Lib.hid (Own.below O_d.out hb)
  replace O_dw := Lib.hid (Own.below O_dw.out hb)
  replace O_o := Lib.hid (Own.below O_o.out hb)
  replace O_ow := Lib.hid (Own.below O_ow.out hb)
  replace O_m := Lib.hid (Own.below O_m.out hb)
  replace Y1 := Lib.hid (RdY.below Y1.out hb); replace Y2 := Lib.hid (RdY.below Y2.out hb)
  replace C := Lib.hid (Below.step C.out hb)
  clear hb
  have O_mw := Lib.hid ho; clear ho
  have eD : ok_DepthsOf ls = goodB ls := rfl
  have eO : ok_OuterArches ls = goodB ls := rfl
  have eS : ok_SmallArches ls = goodB ls := rfl
  have eI : ok_IsSystem ls = goodB ls := rfl
  rw [eD, eO, eS]
  clear eD eO eS
  generalize hT : goodB ls = okT at *
  go_wp2_with fail
  refine (sSame_yes _ _ _ _ _ O_d.out.rd O_dw.out.rd rfl).mono ?_
  rintro e w22 ⟨rfl, hb⟩
  replace O_s := Lib.hid (Own.below O_s.out hb)
  replace O_d := Lib.hid (Own.below O_d.out hb)
  replace O_dw := Lib.hid (Own.below O_dw.out hb)
  replace O_o := Lib.hid (Own.below O_o.out hb)
  replace O_ow := Lib.hid (Own.below O_ow.out hb)
  replace O_m := Lib.hid (Own.below O_m.out hb)
  replace O_mw := Lib.hid (Own.below O_mw.out hb)
  replace Y1 := Lib.hid (RdY.below Y1.out hb); replace Y2 := Lib.hid (RdY.below Y2.out hb)
  replace C := Lib.hid (Below.step C.out hb)
  clear hb
  go_wp2_with fail
  refine (sSame_yes _ _ _ _ _ O_o.out.rd O_ow.out.rd rfl).mono ?_
  rintro e w23 ⟨rfl, hb⟩
  replace O_s := Lib.hid (Own.below O_s.out hb)
  replace O_d := Lib.hid (Own.below O_d.out hb)
  replace O_dw := Lib.hid (Own.below O_dw.out hb)
  replace O_o := Lib.hid (Own.below O_o.out hb)
  replace O_ow := Lib.hid (Own.below O_ow.out hb)
  replace O_m := Lib.hid (Own.below O_m.out hb)
  replace O_mw := Lib.hid (Own.below O_mw.out hb)
  replace Y1 := Lib.hid (RdY.below Y1.out hb); replace Y2 := Lib.hid (RdY.below Y2.out hb)
  replace C := Lib.hid (Below.step C.out hb)
  clear hb
  go_wp2_with fail
  refine (sSame_yes _ _ _ _ _ O_m.out.rd O_mw.out.rd rfl).mono ?_
  rintro e w24 ⟨rfl, hb⟩
  replace O_s := Lib.hid (Own.below O_s.out hb)
  replace O_d := Lib.hid (Own.below O_d.out hb)
  replace O_dw := Lib.hid (Own.below O_dw.out hb)
  replace O_o := Lib.hid (Own.below O_o.out hb)
  replace O_ow := Lib.hid (Own.below O_ow.out hb)
  replace O_m := Lib.hid (Own.below O_m.out hb)
  replace O_mw := Lib.hid (Own.below O_mw.out hb)
  replace Y1 := Lib.hid (RdY.below Y1.out hb); replace Y2 := Lib.hid (RdY.below Y2.out hb)
  replace C := Lib.hid (Below.step C.out hb)
  clear hb
  clear O_dw
  clear O_ow
  clear O_mw
  go_wp2_with fail
  refine (impl_IsSystem ls _ _ O_s.out.rd (by have := LS.out; omega)).mono ?_
  rintro e w25 ⟨rfl, hb⟩
  replace O_s := Lib.hid (Own.below O_s.out hb)
  replace O_d := Lib.hid (Own.below O_d.out hb)
  replace O_o := Lib.hid (Own.below O_o.out hb)
  replace O_m := Lib.hid (Own.below O_m.out hb)
  replace Y1 := Lib.hid (RdY.below Y1.out hb); replace Y2 := Lib.hid (RdY.below Y2.out hb)
  replace C := Lib.hid (Below.step C.out hb)
  clear hb
  rw [eI]
  clear eI
  cases okT with
  | false =>
    go_wp2_with fail
    go_ret
    exact ⟨rfl, C.out⟩
  | true =>
    as_aux_lemma =>
    have hn12 := good_len' hT
    have e1 : res_DepthsOf ls = depthsI ls := by unfold res_DepthsOf; rw [hT]; rfl
    have e2 : res_OuterArches ls = whereL (isOuterB ls) ls.length := by unfold res_OuterArches; rw [hT]; rfl
    have e3 : res_SmallArches ls = whereL (isSmallB ls) ls.length := by unfold res_SmallArches; rw [hT]; rfl
    rw [e1] at O_d; rw [e2] at O_o; rw [e3] at O_m
    clear e1 e2 e3
    have FS := Lib.hid (fun t (ht : t < ls.length) (hb : (t : Int) < ls.getD t 0) => arc_over hT ht hb)
    have FN := Lib.hid (fun t (ht : t < ls.length) => ((good_facts hT).2.2.1 t ht).2.2.1)
    have FD := Lib.hid (fun t (ht : t < ls.length) hb => @law_depth ls t ht hb)
    have FO := Lib.hid (fun t (ht : t < ls.length) hb h0 => @law_outer ls t ht hb h0)
    have FO0 := Lib.hid (fun t h => @law_outer0 ls t h)
    have FB := Lib.hid (fun t h => @law_begins ls t h); have FB0 := Lib.hid (fun t h => @law_begins0 ls t h)
    have FM : Hid (∀ x ∈ whereL (isSmallB ls) ls.length, ∃ t : Nat, t < ls.length ∧ x = (t : Int) ∧ ls.getD t 0 = (t : Int) + 1) := fun x hx => by
      obtain ⟨t, h1, h2, h3⟩ := whereL_is hx
      subst h2
      unfold isSmallB at h3
      rw [decide_eq_true_eq, Int.toNat_natCast] at h3
      exact ⟨t, h1, rfl, h3⟩
    have FSM := Lib.hid (small_some hT)
    have WB := Lib.hid (whereL_len (beginsB ls)); have WO := Lib.hid (whereL_len (isOuterB ls)); have WM := Lib.hid (whereL_len (isSmallB ls) ls.length)
    obtain ⟨ad, cd, ed, hd1, hd2⟩ := O_d.out.form
    obtain ⟨ao, co, eo, ho1, ho2⟩ := O_o.out.form
    obtain ⟨am, cm, em, hm1, hm2⟩ := O_m.out.form
    obtain ⟨az, cz, es, hs1, hs2⟩ := O_s.out.form
    simp only [Value.slice.injEq] at ed eo em es
    obtain ⟨rfl, rfl, rfl⟩ := ed
    obtain ⟨rfl, rfl, rfl⟩ := eo
    obtain ⟨rfl, rfl, rfl⟩ := em
    obtain ⟨rfl, rfl, rfl⟩ := es
    unfold maxLen at hd2 ho2 hm2 hs2
    have hol : (whereL (isOuterB ls) ls.length).length ≤ 12 := Nat.le_trans (WO.out _) hn12
    have hml : (whereL (isSmallB ls) ls.length).length ≤ 12 := Nat.le_trans WM.out hn12
    have HMS : Hid ((whereL (isSmallB ls) ls.length).length = (whereL (isSmallB ls) ls.length).length) := rfl
    clear hT
    generalize hn : ls.length = n at *
    generalize hMS : whereL (isSmallB ls) n = MS at *
    generalize hOS : whereL (isOuterB ls) n = OS at *
    generalize hDS : depthsI ls = DS at *
    have HOS := Lib.hid hOS
    have HN := Lib.hid hn
    clear hMS hOS hDS HMS hn
    go_wp2_with fail
    go_loop [35, 36, 227] (fun a b i => ∃ t : Nat, t ≤ n ∧ i = .int .i64 (t : Int) ∧ a = .int .i64 ((whereL (isOuterB ls) t).length : Int) ∧ b = .int .i64 ((whereL (beginsB ls) t).length : Int)) (fun _ _ i => n - (intOf i).toNat)
    case atStart => exact ⟨0, by omega, rfl, rfl, rfl⟩
    case round =>
      obtain ⟨t, ht, rfl, rfl, rfl⟩ := hrel
      by_cases hlt : t < n
      · have hlt2 : (t : Int) < (n : Int) := by omega
        have hbl := WB.out t; have hol2 := WO.out t
        obtain ⟨gs, rfl, hcs⟩ := O_s.out.get t (by rw [HN.out]; exact hlt)
        have hne := FN.out t hlt
        have hsum := FS.out t hlt; have hdep := FD.out t hlt; have hout := FO.out t hlt; have hout0 := FO0.out t; have hbeg := FB.out t; have hbeg0 := FB0.out t
        generalize hy : ls.getD t 0 = y at *
        have HYE := Lib.hid hy
        clear hy
        by_cases hb : (t : Int) < y
        · have hs := Lib.hid (hsum hb); have hd := hdep hb; have ho := Lib.hid (hout hb); have ho0 := Lib.hid hout0; have hwb := Lib.hid (law_where1 (hbeg hb))
          clear hsum hdep hout hout0 hbeg hbeg0 hne
          obtain ⟨gd, rfl, hcd⟩ := O_d.out.get (whereL (beginsB ls) t).length hd.1
          rw [hd.2] at hcd
          have hdl : ((whereL (beginsB ls) t).length : Int) < (DS.length : Int) := by omega
          have hov : overN ls (t : Int) t ≤ t := overN_le ls t t
          clear hd
          generalize hK : (whereL (beginsB ls) t).length = K at *
          generalize hA : (whereL (isOuterB ls) t).length = A at *
          have HK := Lib.hid hK; have HA := Lib.hid hA
          clear hK hA
          have hyt : ¬ y < (t : Int) := by omega
          go_wp2_with fail
          go_loop [39, 237] (fun o u => ∃ k : Nat, k ≤ n ∧ u = .int .i64 (k : Int) ∧ o = .int .i64 (cntY ls (t : Int) y k : Int) ∧ cntY ls (t : Int) y k ≤ k) (fun _ u => n - (intOf u).toNat)
          case atStart => exact ⟨0, by omega, rfl, rfl, Nat.le_refl _⟩
          case round =>
            obtain ⟨k, hk, rfl, rfl, hck⟩ := hrel
            by_cases hkl : k < n
            · have hkl2 : (k : Int) < (n : Int) := by omega
              obtain ⟨gs', e', hcv⟩ := O_s.out.get k (by rw [HN.out]; exact hkl)
              simp only [Option.some.injEq, Addr.mk.injEq, and_true] at e'
              subst e'
              have hstep : cntY ls (t : Int) y (k + 1) = cntY ls (t : Int) y k + if (k : Int) < (t : Int) ∧ y < ls.getD k 0 then 1 else 0 := rfl
              generalize ls.getD k 0 = z at *
              generalize cntY ls (t : Int) y k = c at *
              by_cases q1 : (k : Int) < (t : Int)
              · by_cases q2 : y < z
                · rw [if_pos ⟨q1, q2⟩] at hstep
                  have HST := Lib.hid hstep
                  clear hstep
                  go_wp2_with fail
                  go_round
                  case rel => exact ⟨k + 1, by omega, by go_num, by rw [HST.out]; go_num, by rw [HST.out]; omega⟩
                  case measure => simp [intOf]; omega
                · rw [if_neg (fun h => q2 h.2)] at hstep
                  have HST := Lib.hid hstep
                  clear hstep
                  go_wp2_with fail
                  go_round
                  case rel => exact ⟨k + 1, by omega, by go_num, by rw [HST.out]; rfl, by rw [HST.out]; omega⟩
                  case measure => simp [intOf]; omega
              · rw [if_neg (fun h => q1 h.1)] at hstep
                have HST := Lib.hid hstep
                clear hstep
                go_wp2_with fail
                go_round
                case rel => exact ⟨k + 1, by omega, by go_num, by rw [HST.out]; rfl, by rw [HST.out]; omega⟩
                case measure => simp [intOf]; omega
            · obtain rfl : k = n := by omega
              have hkl2 : ¬ (k : Int) < (k : Int) := by omega
              rw [hs.out] at hck ⊢
              generalize hov2 : overN ls (t : Int) t = ov at *
              by_cases q0 : ov = 0
              · subst q0
                have h3 := ho.out rfl
                have hwo := Lib.hid (law_where1 h3.1)
                have h4 := h3.2
                obtain ⟨go, rfl, hco⟩ := O_o.out.get A h4.1
                rw [h4.2] at hco
                have hal : (A : Int) < (OS.length : Int) := by omega
                clear h3 h4
                go_wp2_with fail
                go_round
                case rel => exact ⟨t + 1, by omega, by go_num, by rw [hwo.out, HA.out]; go_num, by rw [hwb.out]; go_num⟩
                case measure => simp [intOf]; omega
              · have hwo := Lib.hid (law_where0 (ho0.out (.inr q0)))
                have q1 : ((ov : Int) == 0) = false := beq_eq_false_iff_ne.2 (by omega)
                go_wp2_with fail
                go_round
                case rel => exact ⟨t + 1, by omega, by go_num, by rw [hwo.out, HA.out], by rw [hwb.out]; go_num⟩
                case measure => simp [intOf]; omega
        · have hyt : y < (t : Int) := by omega
          have hwb := Lib.hid (law_where0 (hbeg0 (by omega))); have hwo := Lib.hid (law_where0 (hout0 (.inl (by omega))))
          clear hsum hdep hout hout0 hbeg hbeg0 hne
          go_wp2_with fail
          go_round
          case rel => exact ⟨t + 1, by omega, by go_num, by rw [hwo.out], by rw [hwb.out]⟩
          case measure => simp [intOf]; omega
      · obtain rfl : t = n := by omega
        have hlt2 : ¬ (t : Int) < (t : Int) := by omega
        rw [HOS.out]
        clear HOS FS FN FD FO FO0 FB FB0 WB WO
        go_wp2_with fail
        go_loop [274] (fun i => ∃ k : Nat, k ≤ MS.length ∧ i = .int .i64 (k : Int)) (fun i => MS.length - (intOf i).toNat)
        case atStart => exact ⟨0, by omega, rfl⟩
        case round =>
          obtain ⟨k, hk, rfl⟩ := hrel
          by_cases hkl : k < MS.length
          · have hkl2 : (k : Int) < (MS.length : Int) := by omega
            obtain ⟨gm, rfl, hcm⟩ := O_m.out.get k hkl
            obtain ⟨u, h1, h2, h3⟩ := FM.out (MS.getD k 0) (by simp [List.getD, hkl])
            rw [h2] at hcm
            obtain ⟨gs, rfl, hcs⟩ := O_s.out.get u (by rw [HN.out]; exact h1)
            rw [h3] at hcs
            have h1i : (u : Int) < (t : Int) := by omega
            have hwu : IntKind.i64.wrap ((u : Int) + 1) = (u : Int) + 1 := IntWalk.i64_in _ (by omega)
            clear h2 h3
            go_wp2_with fail
            go_round
            case rel => exact ⟨k + 1, by omega, by go_num⟩
            case measure => simp [intOf]; omega
          · obtain rfl : k = MS.length := by omega
            have hkl2 : ¬ (MS.length : Int) < (MS.length : Int) := by omega
            by_cases hz : t = 0
            · subst hz
              go_wp2_with fail
              go_ret
              exact ⟨rfl, C.out⟩
            · have hz2 : (0 : Int) < (MS.length : Int) := by rcases FSM.out with h | h <;> omega
              have hz4 : ((t : Int) == 0) = false := beq_eq_false_iff_ne.2 (by omega)
              go_wp2_with fail
              go_ret
              exact ⟨by simp; omega, C.out⟩
end Go.Proofs.Ytbinpefogecgmaa

namespace Go.Proofs.Ytbinpefogecgmaa.fnArchesPut
open Go.ChangeShapes Go.WideShapes Go.ChangeAt Go.RowKit
set_option linter.unusedVariables false
set_option linter.unusedSimpArgs false

theorem own : ownKnob Try.prog.godebug = none := by kernel_rfl
theorem laidOut : laidOutB Try.prog = true := by kernel_rfl

set_option maxRecDepth 100000 in
theorem lifted (os : Os) (started : os.Started) (H : Type) (enc : TypeId × Value → H) :
    ReturnsInHanded {} Try.checked os 5 .any (Rows.fnArchesPutSpec.pre6 enc Try.prog Try.f5 Rows.fnArchesPutRow.domain false) (Rows.fnArchesPutSpec.post enc Try.prog Try.f5 false true false false) := by
  refine returnsInHanded_of_change (C := Try.checked) own started (by kernel_rfl) Try.func5
    (ChangeSpec.witness6 (enc := enc) (C := Try.checked) false ⟨#[], #[.slice none 0 0, .slice none 0 0], []⟩ 8 (by kernel_rfl) (by kernel_rfl) (by kernel_rfl) (by kernel_rfl)) ?_
  intro W base args ds gs before hval0 hW hcnd _
  have hval : ∀ (j : Nat) t v, Try.f5.params[j]? = some t → args[j]? = some v → Value.okWide Try.prog W .any base t v := hval0
  have hW' := hW
  obtain ⟨p, q, hA0, hV, rfl, hfz, hnd⟩ := hW
  have hA : DataW.TrodAll enc Try.prog W 0 (fun _ => true) true Try.f5.params.toList args.toList ds p := hA0
  rw [Try.params5] at hA hval
  obtain ⟨v0, vs0, d0, ds0, p0, q0, hargs, rfl, rfl, h0, r0⟩ := trodAll_cons hA
  obtain ⟨v1, vs1, d1, ds1, p1, q1, rfl, rfl, rfl, h1, r1⟩ := trodAll_cons r0
  obtain ⟨rfl, rfl, rfl⟩ := trodAll_nil r1
  obtain rfl : args = #[v0, v1] := by cases args; simp_all
  obtain ⟨rfl, rfl⟩ := trodVars_none hV
  obtain ⟨a0, len0, cap0, rfl⟩ := okWide_slice Try.underlying22 (hval 0 22 v0 rfl rfl)
  have k0 := h0
  have lt0 : ∀ x ∈ p0, x.block < W.heap.size := by obtain ⟨m, hm⟩ := k0; exact DataW.trod_lt m _ _ _ hm
  obtain ⟨z0, w0⟩ : ∃ zs, RdY W (.slice a0 len0 cap0) zs := by
    obtain ⟨fuel, hf⟩ := h0
    rcases open_ints Try.underlying22 Try.underlying5 (by kernel_rfl) hf with ⟨hcs, _⟩ | ⟨x, l, c, zs, hcs, _, hl, hm, hz, _, hcell, hwz⟩
    · simp [Value.cells] at hcs
      obtain ⟨rfl, rfl, rfl⟩ := hcs
      exact ⟨[], rdY_nil W⟩
    · simp [Value.cells] at hcs
      obtain ⟨rfl, rfl, rfl⟩ := hcs
      exact ⟨zs.take _, rdY_row W x _ _ zs hl hm (by simpa using hz) hcell hwz⟩
  obtain ⟨a1, len1, cap1, rfl⟩ := okWide_slice Try.underlying22 (hval 1 22 v1 rfl rfl)
  have k1 := h1
  have lt1 : ∀ x ∈ p1, x.block < W.heap.size := by obtain ⟨m, hm⟩ := k1; exact DataW.trod_lt m _ _ _ hm
  obtain ⟨z1, w1⟩ : ∃ zs, RdY W (.slice a1 len1 cap1) zs := by
    obtain ⟨fuel, hf⟩ := h1
    rcases open_ints Try.underlying22 Try.underlying5 (by kernel_rfl) hf with ⟨hcs, _⟩ | ⟨x, l, c, zs, hcs, _, hl, hm, hz, _, hcell, hwz⟩
    · simp [Value.cells] at hcs
      obtain ⟨rfl, rfl, rfl⟩ := hcs
      exact ⟨[], rdY_nil W⟩
    · simp [Value.cells] at hcs
      obtain ⟨rfl, rfl, rfl⟩ := hcs
      exact ⟨zs.take _, rdY_row W x _ _ zs hl hm (by simpa using hz) hcell hwz⟩
  clear hA0 hval0
  refine (walk_ArchesPut a0 len0 cap0 z0 a1 len1 cap1 z1 W w0 w1).mono fun e W' ⟨he, bel⟩ => ?_
  subst he
  exact ⟨_, rfl, _, _, _, [], _, [], hW', trodAll_mk1 (shut_bool Try.underlying4 _), (trodAll_cons_mk (Below.trod laidOut (by kernel_rfl) (of_decide_eq_true (by kernel_rfl)) k0 bel lt0) (trodAll_cons_mk (Below.trod laidOut (by kernel_rfl) (of_decide_eq_true (by kernel_rfl)) k1 bel lt1) trodAll_mk0)), rfl, bel.frame _, fun h => by cases h⟩

theorem over : Rows.fnArchesPutRow.holds Try.pinned (OpenSpec.ofChange Rows.fnArchesPutSpec) :=
  OpenClaim.holds_of_wide 5 Try.f5 rfl rfl rfl rfl rfl rfl rfl ⟨rfl, rfl, rfl, rfl, rfl⟩ rfl rfl rfl rfl rfl (by kernel_rfl) Try.func5 (by kernel_rfl)
    (of_decide_eq_true (by kernel_rfl)) (by unfold Func.isWrapper; first | (rw [if_pos (by decide +kernel)]; kernel_rfl) | (rw [if_neg (by decide +kernel)]; exact ⟨rfl, rfl⟩))
    (fun os started H enc _ => lifted os started H enc)

theorem proved : Rows.FnArchesPutSaid := over
#print axioms proved
end Go.Proofs.Ytbinpefogecgmaa.fnArchesPut
