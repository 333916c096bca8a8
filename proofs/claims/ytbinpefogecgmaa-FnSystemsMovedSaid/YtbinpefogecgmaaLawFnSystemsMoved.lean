/- The law FnSystemsMoved returns true on any two byte slices: turns and mirrors of systems undo themselves, joined and covered ones keep their parts, rainbows and small arches are mirrored to themselves. No condition. -/
import Derived.Test.YtbinpefogecgmaaRows
import Derived.ProofKit
import Derived.OpenShut
import Derived.ShutString
import Derived.ChangeOld
import Derived.Below
import Derived.Lib.SmallJoins
import Derived.Deep.DeepCutAuto
import Derived.Deep.CutBlock
import Derived.Test.YtbinpefogecgmaaSame
import Derived.Test.YtbinpefogecgmaaBig
import Derived.Test.YtbinpefogecgmaaDrawA
import Derived.Test.YtbinpefogecgmaaSysF
import Derived.Test.YtbinpefogecgmaaIsSystem
namespace Go.Proofs.Ytbinpefogecgmaa
open Go.RowKit
set_option linter.unusedSimpArgs false
set_option linter.unusedVariables false

theorem tcond {l : List Int} {b : Int} (h : ok_TurnSystem l b = true) : goodB l = true ∧ inB b (-100) 100 = true := by
  unfold ok_TurnSystem at h; rw [Bool.and_eq_true] at h; exact h
theorem law_turn {l : List Int} {b : Int} (h : ok_TurnSystem l b = true) : ok_TurnSystem (res_TurnSystem l b) (-b) = true ∧ res_TurnSystem (res_TurnSystem l b) (-b) = l ∧ ok_TurnSystem l (l.length : Int) = true ∧ res_TurnSystem l (l.length : Int) = l ∧ ok_IsSystem (res_TurnSystem l b) = true := by
  obtain ⟨h1, h2⟩ := tcond h
  have f := turn_facts h1 b
  have e : res_TurnSystem l b = turnL l b := by unfold res_TurnSystem; rw [h1, h2]; rfl
  have h3 : inB (-b) (-100) 100 = true := by rw [inB_iff] at h2 ⊢; omega
  have h4 : inB (l.length : Int) (-100) 100 = true := by have := good_len' h1; rw [inB_iff]; omega
  rw [e]
  refine ⟨?_, ?_, ?_, ?_, ?_⟩
  · unfold ok_TurnSystem; rw [f.1, h3]; rfl
  · unfold res_TurnSystem; rw [f.1, h3]; exact f.2.1
  · unfold ok_TurnSystem; rw [h1, h4]; rfl
  · unfold res_TurnSystem; rw [h1, h4]; exact f.2.2
  · unfold ok_IsSystem; exact f.1
theorem law_join {a b : List Int} (h : ok_JoinSystems a b = true) : ok_SystemText a = true ∧ ok_SystemText b = true ∧ ok_SystemText (res_JoinSystems a b) = true ∧ res_SystemText (res_JoinSystems a b) = res_SystemText a ++ res_SystemText b := by
  have e : res_JoinSystems a b = joinL a b := by unfold res_JoinSystems; rw [h]; rfl
  unfold ok_JoinSystems at h
  simp only [Bool.and_eq_true, decide_eq_true_eq] at h
  obtain ⟨⟨h1, h2⟩, h3⟩ := h
  have f := join_facts h1 h2 h3
  rw [e]
  unfold ok_SystemText res_SystemText
  rw [h1, h2, f.1]
  exact ⟨rfl, rfl, rfl, f.2⟩
theorem text_small (l : List Int) : (res_SystemText l).size ≤ 12 := by
  unfold res_SystemText
  cases h : goodB l with
  | true => rw [if_pos rfl, textT_size]; exact good_len' h
  | false => rw [if_neg (by simp)]; decide
theorem law_mirror {c : List Int} (h : ok_MirrorSystem c = true) : ok_MirrorSystem (res_MirrorSystem c) = true ∧ res_MirrorSystem (res_MirrorSystem c) = c := by
  unfold ok_MirrorSystem at h
  have f := mirror_facts h
  have e : res_MirrorSystem c = mirrorL c := by unfold res_MirrorSystem; rw [h]; rfl
  rw [e]
  unfold ok_MirrorSystem res_MirrorSystem
  rw [f.1]
  exact ⟨rfl, f.2⟩
theorem law_cover {c : List Int} (h : ok_CoverSystem c = true) : ok_SystemText c = true ∧ ok_SystemText (res_CoverSystem c) = true ∧ ok_OuterArches (res_CoverSystem c) = true ∧ res_SystemText (res_CoverSystem c) = ⟨#[40]⟩ ++ res_SystemText c ++ ⟨#[41]⟩ ∧ (res_OuterArches (res_CoverSystem c)).length = 1 := by
  have e : res_CoverSystem c = coverL c := by unfold res_CoverSystem; rw [h]; rfl
  unfold ok_CoverSystem at h
  simp only [Bool.and_eq_true, decide_eq_true_eq] at h
  have f := cover_facts h.1 h.2
  rw [e]
  unfold ok_SystemText res_SystemText ok_OuterArches res_OuterArches
  rw [h.1, f.1]
  exact ⟨rfl, rfl, rfl, f.2.1, f.2.2⟩
theorem law_rain {x : Int} (h : ok_RainbowOf x = true) : ok_MirrorSystem (res_RainbowOf x) = true ∧ ok_MirrorSystem (res_FlatOf x) = true ∧ ok_DepthsOf (res_RainbowOf x) = true ∧ res_MirrorSystem (res_RainbowOf x) = res_RainbowOf x ∧ res_MirrorSystem (res_FlatOf x) = res_FlatOf x ∧ res_DepthsOf (res_RainbowOf x) = (List.range x.toNat).map (fun (i : Nat) => (i : Int)) ∧ x.toNat ≤ 6 := by
  unfold ok_RainbowOf at h
  have h' := inB_iff.1 h
  have f := rain_facts (n := x.toNat) (by omega)
  have e1 : res_RainbowOf x = rainbow x.toNat := by unfold res_RainbowOf; rw [h]; rfl
  have e2 : res_FlatOf x = flats x.toNat := by unfold res_FlatOf; rw [h]; rfl
  rw [e1, e2]
  unfold ok_MirrorSystem res_MirrorSystem ok_DepthsOf res_DepthsOf
  rw [f.1, f.2.1]
  exact ⟨rfl, rfl, rfl, f.2.2.1, f.2.2.2.1, f.2.2.2.2, by omega⟩
theorem okFlat_rain (x : Int) : ok_FlatOf x = ok_RainbowOf x := rfl

set_option maxHeartbeats 8000000 in
set_option maxRecDepth 100000 in
theorem walk_SystemsMoved (b0 : Option Addr) (n0 c0 : Nat) (l1 : List Int) (b1 : Option Addr) (n1 c1 : Nat) (l2 : List Int) (w : World) (y1 : RdY w (.slice b0 n0 c0) l1) (y2 : RdY w (.slice b1 n1 c1) l2) :
    Calls Try.prog 4 #[.slice b0 n0 c0, .slice b1 n1 c1] w (Good w) := by
  have Y1 := Lib.hid y1; have Y2 := Lib.hid y2; clear y1 y2
  have C : Hid (Below w.heap.size w w) := Below.refl _ _
  have HIF : Hid (∀ b : Bool, b = true ∨ b = false) := fun b => by cases b <;> simp
  go_enter Try.func4, Try.ntmps4
  go_wp2_with fail
  refine (big_any _ _ _ l1 _ _ _ l2 _ Y1.out Y2.out).mono ?_
  rintro e w0 ⟨b, rfl, rfl⟩
  rcases HIF.out b with rfl | rfl
  · go_wp2
    go_ret
    exact ⟨rfl, C.out⟩
  go_wp2_with fail
  refine (drawTurnSystem_any _ l1 _ Y1.out).mono ?_
  rintro e w1 ⟨v_p, lp, by_, rfl, ho, hl, hx, hb⟩
  obtain ⟨pa, pn, pc, rfl⟩ := ho.form'
  have LP := Lib.hid hl; have HX := Lib.hid hx; clear hl hx
  replace Y1 := Lib.hid (RdY.below Y1.out hb); replace Y2 := Lib.hid (RdY.below Y2.out hb)
  replace C := Lib.hid (Below.step C.out hb)
  clear hb
  have O_p := Lib.hid ho; clear ho
  go_wp2_with fail
  refine (impl_TurnSystem lp by_ _ _ O_p.out.rd (by have := LP.out; omega)).mono ?_
  rintro e w2 ⟨v_q, rfl, ho, hb⟩
  obtain ⟨qa, qn, qc, rfl⟩ := ho.form'
  replace O_p := Lib.hid (Own.below O_p.out hb)
  replace Y1 := Lib.hid (RdY.below Y1.out hb); replace Y2 := Lib.hid (RdY.below Y2.out hb)
  replace C := Lib.hid (Below.step C.out hb)
  clear hb
  have O_q := Lib.hid ho; clear ho
  go_wp2_with fail
  refine (spec_TurnSystem lp by_ _ _ O_p.out.rd (by have := LP.out; omega)).mono ?_
  rintro e w3 ⟨v_r, rfl, ho, hb⟩
  obtain ⟨ra, rn, rc, rfl⟩ := ho.form'
  replace O_p := Lib.hid (Own.below O_p.out hb)
  replace O_q := Lib.hid (Own.below O_q.out hb)
  replace Y1 := Lib.hid (RdY.below Y1.out hb); replace Y2 := Lib.hid (RdY.below Y2.out hb)
  replace C := Lib.hid (Below.step C.out hb)
  clear hb
  have O_r := Lib.hid ho; clear ho
  go_wp2_with fail
  refine (sSame_yes _ _ _ _ _ O_q.out.rd O_r.out.rd rfl).mono ?_
  rintro e w4 ⟨rfl, hb⟩
  replace O_p := Lib.hid (Own.below O_p.out hb)
  replace O_q := Lib.hid (Own.below O_q.out hb)
  replace O_r := Lib.hid (Own.below O_r.out hb)
  replace Y1 := Lib.hid (RdY.below Y1.out hb); replace Y2 := Lib.hid (RdY.below Y2.out hb)
  replace C := Lib.hid (Below.step C.out hb)
  clear hb
  clear O_r
  go_wp2_with fail
  refine (drawJoinSystems_any _ l2 _ Y2.out).mono ?_
  rintro e w5 ⟨v_a, v_b, la, lb, rfl, ho, ho2, hl, hl2, hb⟩
  obtain ⟨aa, an, ac, rfl⟩ := ho.form'
  obtain ⟨ba, bn, bc, rfl⟩ := ho2.form'
  have LA := Lib.hid hl; have LB := Lib.hid hl2; clear hl hl2
  replace O_p := Lib.hid (Own.below O_p.out hb)
  replace O_q := Lib.hid (Own.below O_q.out hb)
  replace Y1 := Lib.hid (RdY.below Y1.out hb); replace Y2 := Lib.hid (RdY.below Y2.out hb)
  replace C := Lib.hid (Below.step C.out hb)
  clear hb
  have O_a := Lib.hid ho; clear ho
  have O_b := Lib.hid ho2; clear ho2
  go_wp2_with fail
  refine (impl_JoinSystems la lb _ _ _ O_a.out.rd O_b.out.rd (by have := LA.out; omega) (by have := LB.out; omega)).mono ?_
  rintro e w6 ⟨v_j, rfl, ho, hb⟩
  obtain ⟨ja, jn, jc, rfl⟩ := ho.form'
  replace O_p := Lib.hid (Own.below O_p.out hb)
  replace O_q := Lib.hid (Own.below O_q.out hb)
  replace O_a := Lib.hid (Own.below O_a.out hb)
  replace O_b := Lib.hid (Own.below O_b.out hb)
  replace Y1 := Lib.hid (RdY.below Y1.out hb); replace Y2 := Lib.hid (RdY.below Y2.out hb)
  replace C := Lib.hid (Below.step C.out hb)
  clear hb
  have O_j := Lib.hid ho; clear ho
  go_wp2_with fail
  refine (spec_JoinSystems la lb _ _ _ O_a.out.rd O_b.out.rd (by have := LA.out; omega) (by have := LB.out; omega)).mono ?_
  rintro e w7 ⟨v_jw, rfl, ho, hb⟩
  obtain ⟨jwa, jwn, jwc, rfl⟩ := ho.form'
  replace O_p := Lib.hid (Own.below O_p.out hb)
  replace O_q := Lib.hid (Own.below O_q.out hb)
  replace O_a := Lib.hid (Own.below O_a.out hb)
  replace O_b := Lib.hid (Own.below O_b.out hb)
  replace O_j := Lib.hid (Own.below O_j.out hb)
  replace Y1 := Lib.hid (RdY.below Y1.out hb); replace Y2 := Lib.hid (RdY.below Y2.out hb)
  replace C := Lib.hid (Below.step C.out hb)
  clear hb
  have O_jw := Lib.hid ho; clear ho
  go_wp2_with fail
  refine (sSame_yes _ _ _ _ _ O_j.out.rd O_jw.out.rd rfl).mono ?_
  rintro e w8 ⟨rfl, hb⟩
  replace O_p := Lib.hid (Own.below O_p.out hb)
  replace O_q := Lib.hid (Own.below O_q.out hb)
  replace O_a := Lib.hid (Own.below O_a.out hb)
  replace O_b := Lib.hid (Own.below O_b.out hb)
  replace O_j := Lib.hid (Own.below O_j.out hb)
  replace O_jw := Lib.hid (Own.below O_jw.out hb)
  replace Y1 := Lib.hid (RdY.below Y1.out hb); replace Y2 := Lib.hid (RdY.below Y2.out hb)
  replace C := Lib.hid (Below.step C.out hb)
  clear hb
  clear O_jw
  generalize hT : ok_JoinSystems la lb = okT at *
  go_upto_if 116 with fail
  go_cut [] (fun wx => Hid (Below w8.heap.size w8 wx))
  case first =>
    as_aux_lemma =>
      have D : Hid (Below w8.heap.size w8 w8) := Below.refl _ _
      cases okT with
      | false =>
        go_wp2_with fail
        go_meet
        case rel => exact D.out
      | true =>
        obtain ⟨f1, f2, f3, f4⟩ := law_join hT
        have F4 := Lib.hid f4; clear f4 hT
        have s1 := text_small la; have s2 := text_small lb
        go_wp2_with fail
        refine (impl_SystemText la _ _ O_a.out.rd (by have := LA.out; omega)).mono ?_
        rintro e w9 ⟨rfl, hb⟩
        replace O_p := Lib.hid (Own.below O_p.out hb)
        replace O_q := Lib.hid (Own.below O_q.out hb)
        replace O_a := Lib.hid (Own.below O_a.out hb)
        replace O_b := Lib.hid (Own.below O_b.out hb)
        replace O_j := Lib.hid (Own.below O_j.out hb)
        replace Y1 := Lib.hid (RdY.below Y1.out hb); replace Y2 := Lib.hid (RdY.below Y2.out hb)
        replace D := Lib.hid (Below.step D.out hb)
        clear hb
        go_wp2_with fail
        refine (impl_SystemText lb _ _ O_b.out.rd (by have := LB.out; omega)).mono ?_
        rintro e w10 ⟨rfl, hb⟩
        replace O_p := Lib.hid (Own.below O_p.out hb)
        replace O_q := Lib.hid (Own.below O_q.out hb)
        replace O_a := Lib.hid (Own.below O_a.out hb)
        replace O_b := Lib.hid (Own.below O_b.out hb)
        replace O_j := Lib.hid (Own.below O_j.out hb)
        replace Y1 := Lib.hid (RdY.below Y1.out hb); replace Y2 := Lib.hid (RdY.below Y2.out hb)
        replace D := Lib.hid (Below.step D.out hb)
        clear hb
        go_wp2_with fail
        refine (impl_SystemText (res_JoinSystems la lb) _ _ O_j.out.rd (Nat.le_trans (len_JoinSystems la lb) (by omega))).mono ?_
        rintro e w11 ⟨rfl, hb⟩
        replace O_p := Lib.hid (Own.below O_p.out hb)
        replace O_q := Lib.hid (Own.below O_q.out hb)
        replace O_a := Lib.hid (Own.below O_a.out hb)
        replace O_b := Lib.hid (Own.below O_b.out hb)
        replace O_j := Lib.hid (Own.below O_j.out hb)
        replace Y1 := Lib.hid (RdY.below Y1.out hb); replace Y2 := Lib.hid (RdY.below Y2.out hb)
        replace D := Lib.hid (Below.step D.out hb)
        clear hb
        rw [F4.out]
        go_wp2_with fail
        go_meet
        case rel => exact D.out
  case rest =>
  as_aux_lemma =>
  have hb := hcut.out; clear hcut
  generalize wc = w12 at *
  replace O_p := Lib.hid (Own.below O_p.out hb)
  replace O_q := Lib.hid (Own.below O_q.out hb)
  replace O_a := Lib.hid (Own.below O_a.out hb)
  replace O_b := Lib.hid (Own.below O_b.out hb)
  replace O_j := Lib.hid (Own.below O_j.out hb)
  replace Y1 := Lib.hid (RdY.below Y1.out hb); replace Y2 := Lib.hid (RdY.below Y2.out hb)
  replace C := Lib.hid (Below.step C.out hb)
  clear hb
  clear hT
  clear O_a
  clear O_b
  clear O_j
  go_wp2_with fail
  refine (drawCoverSystem_any _ l2 _ Y2.out).mono ?_
  rintro e w13 ⟨v_c, lc, rfl, ho, hl, hb⟩
  obtain ⟨ca, cn, cc, rfl⟩ := ho.form'
  have LC := Lib.hid hl; clear hl
  replace O_p := Lib.hid (Own.below O_p.out hb)
  replace O_q := Lib.hid (Own.below O_q.out hb)
  replace Y1 := Lib.hid (RdY.below Y1.out hb); replace Y2 := Lib.hid (RdY.below Y2.out hb)
  replace C := Lib.hid (Below.step C.out hb)
  clear hb
  have O_c := Lib.hid ho; clear ho
  go_wp2_with fail
  refine (impl_CoverSystem lc _ _ O_c.out.rd (by have := LC.out; omega)).mono ?_
  rintro e w14 ⟨v_cv, rfl, ho, hb⟩
  obtain ⟨cva, cvn, cvc, rfl⟩ := ho.form'
  replace O_p := Lib.hid (Own.below O_p.out hb)
  replace O_q := Lib.hid (Own.below O_q.out hb)
  replace O_c := Lib.hid (Own.below O_c.out hb)
  replace Y1 := Lib.hid (RdY.below Y1.out hb); replace Y2 := Lib.hid (RdY.below Y2.out hb)
  replace C := Lib.hid (Below.step C.out hb)
  clear hb
  have O_cv := Lib.hid ho; clear ho
  go_wp2_with fail
  refine (spec_CoverSystem lc _ _ O_c.out.rd (by have := LC.out; omega)).mono ?_
  rintro e w15 ⟨v_cw, rfl, ho, hb⟩
  obtain ⟨cwa, cwn, cwc, rfl⟩ := ho.form'
  replace O_p := Lib.hid (Own.below O_p.out hb)
  replace O_q := Lib.hid (Own.below O_q.out hb)
  replace O_c := Lib.hid (Own.below O_c.out hb)
  replace O_cv := Lib.hid (Own.below O_cv.out hb)
  replace Y1 := Lib.hid (RdY.below Y1.out hb); replace Y2 := Lib.hid (RdY.below Y2.out hb)
  replace C := Lib.hid (Below.step C.out hb)
  clear hb
  have O_cw := Lib.hid ho; clear ho
  go_wp2_with fail
  refine (impl_MirrorSystem lc _ _ O_c.out.rd (by have := LC.out; omega)).mono ?_
  rintro e w16 ⟨v_mi, rfl, ho, hb⟩
  obtain ⟨mia, min, mic, rfl⟩ := ho.form'
  replace O_p := Lib.hid (Own.below O_p.out hb)
  replace O_q := Lib.hid (Own.below O_q.out hb)
  replace O_c := Lib.hid (Own.below O_c.out hb)
  replace O_cv := Lib.hid (Own.below O_cv.out hb)
  replace O_cw := Lib.hid (Own.below O_cw.out hb)
  replace Y1 := Lib.hid (RdY.below Y1.out hb); replace Y2 := Lib.hid (RdY.below Y2.out hb)
  replace C := Lib.hid (Below.step C.out hb)
  clear hb
  have O_mi := Lib.hid ho; clear ho
  go_wp2_with fail
  refine (spec_MirrorSystem lc _ _ O_c.out.rd (by have := LC.out; omega)).mono ?_
  rintro e w17 ⟨v_mw, rfl, ho, hb⟩
  obtain ⟨mwa, mwn, mwc, rfl⟩ := ho.form'
  replace O_p := Lib.hid (Own.below O_p.out hb)
  replace O_q := Lib.hid (Own.below O_q.out hb)
  replace O_c := Lib.hid (Own.below O_c.out hb)
  replace O_cv := Lib.hid (Own.below O_cv.out hb)
  replace O_cw := Lib.hid (Own.below O_cw.out hb)
  replace O_mi := Lib.hid (Own.below O_mi.out hb)
  replace Y1 := Lib.hid (RdY.below Y1.out hb); replace Y2 := Lib.hid (RdY.below Y2.out hb)
  replace C := Lib.hid (Below.step C.out hb)
  clear hb
  have O_mw := Lib.hid ho; clear ho
  go_wp2_with fail
  refine (sSame_yes _ _ _ _ _ O_cv.out.rd O_cw.out.rd rfl).mono ?_
  rintro e w18 ⟨rfl, hb⟩
  replace O_p := Lib.hid (Own.below O_p.out hb)
  replace O_q := Lib.hid (Own.below O_q.out hb)
  replace O_c := Lib.hid (Own.below O_c.out hb)
  replace O_cv := Lib.hid (Own.below O_cv.out hb)
  replace O_cw := Lib.hid (Own.below O_cw.out hb)
  replace O_mi := Lib.hid (Own.below O_mi.out hb)
  replace O_mw := Lib.hid (Own.below O_mw.out hb)
  replace Y1 := Lib.hid (RdY.below Y1.out hb); replace Y2 := Lib.hid (RdY.below Y2.out hb)
  replace C := Lib.hid (Below.step C.out hb)
  clear hb
  go_wp2_with fail
  refine (sSame_yes _ _ _ _ _ O_mi.out.rd O_mw.out.rd rfl).mono ?_
  rintro e w19 ⟨rfl, hb⟩
  replace O_p := Lib.hid (Own.below O_p.out hb)
  replace O_q := Lib.hid (Own.below O_q.out hb)
  replace O_c := Lib.hid (Own.below O_c.out hb)
  replace O_cv := Lib.hid (Own.below O_cv.out hb)
  replace O_cw := Lib.hid (Own.below O_cw.out hb)
  replace O_mi := Lib.hid (Own.below O_mi.out hb)
  replace O_mw := Lib.hid (Own.below O_mw.out hb)
  replace Y1 := Lib.hid (RdY.below Y1.out hb); replace Y2 := Lib.hid (RdY.below Y2.out hb)
  replace C := Lib.hid (Below.step C.out hb)
  clear hb
  clear O_cw
  clear O_mw
  generalize hT : ok_MirrorSystem lc = okT at *
  go_upto_if 191 with fail
  go_cut [] (fun wx => Hid (Below w19.heap.size w19 wx))
  case first =>
    as_aux_lemma =>
      have D : Hid (Below w19.heap.size w19 w19) := Below.refl _ _
      cases okT with
      | false =>
        go_wp2_with fail
        go_meet
        case rel => exact D.out
      | true =>
        obtain ⟨f1, f2⟩ := law_mirror hT
        have F2 := Lib.hid f2; clear f2 hT
        go_wp2_with fail
        refine (impl_MirrorSystem (res_MirrorSystem lc) _ _ O_mi.out.rd (Nat.le_trans (len_MirrorSystem lc) (by omega))).mono ?_
        rintro e w20 ⟨v_bk, rfl, ho, hb⟩
        obtain ⟨bka, bkn, bkc, rfl⟩ := ho.form'
        replace O_p := Lib.hid (Own.below O_p.out hb)
        replace O_q := Lib.hid (Own.below O_q.out hb)
        replace O_c := Lib.hid (Own.below O_c.out hb)
        replace O_cv := Lib.hid (Own.below O_cv.out hb)
        replace O_mi := Lib.hid (Own.below O_mi.out hb)
        replace Y1 := Lib.hid (RdY.below Y1.out hb); replace Y2 := Lib.hid (RdY.below Y2.out hb)
        replace D := Lib.hid (Below.step D.out hb)
        clear hb
        have O_bk := Lib.hid ho; clear ho
        go_wp2_with fail
        refine (sSame_yes _ _ _ _ _ O_bk.out.rd O_c.out.rd F2.out).mono ?_
        rintro e w21 ⟨rfl, hb⟩
        replace O_p := Lib.hid (Own.below O_p.out hb)
        replace O_q := Lib.hid (Own.below O_q.out hb)
        replace O_c := Lib.hid (Own.below O_c.out hb)
        replace O_cv := Lib.hid (Own.below O_cv.out hb)
        replace O_mi := Lib.hid (Own.below O_mi.out hb)
        replace O_bk := Lib.hid (Own.below O_bk.out hb)
        replace Y1 := Lib.hid (RdY.below Y1.out hb); replace Y2 := Lib.hid (RdY.below Y2.out hb)
        replace D := Lib.hid (Below.step D.out hb)
        clear hb
        go_wp2_with fail
        go_meet
        case rel => exact D.out
  case rest =>
  as_aux_lemma =>
  have hb := hcut.out; clear hcut
  generalize wc = w22 at *
  replace O_p := Lib.hid (Own.below O_p.out hb)
  replace O_q := Lib.hid (Own.below O_q.out hb)
  replace O_c := Lib.hid (Own.below O_c.out hb)
  replace O_cv := Lib.hid (Own.below O_cv.out hb)
  replace O_mi := Lib.hid (Own.below O_mi.out hb)
  replace Y1 := Lib.hid (RdY.below Y1.out hb); replace Y2 := Lib.hid (RdY.below Y2.out hb)
  replace C := Lib.hid (Below.step C.out hb)
  clear hb
  clear hT
  clear O_mi
  generalize hT : ok_CoverSystem lc = okT at *
  go_upto_if 205 with fail
  go_cut [] (fun wx => Hid (Below w22.heap.size w22 wx))
  case first =>
    as_aux_lemma =>
      have D : Hid (Below w22.heap.size w22 w22) := Below.refl _ _
      cases okT with
      | false =>
        go_wp2_with fail
        go_meet
        case rel => exact D.out
      | true =>
        obtain ⟨f1, f2, f3, f4, f5⟩ := law_cover hT
        have F4 := Lib.hid f4; have F5 := Lib.hid f5; clear f4 f5 hT
        have s1 := text_small lc
        go_wp2_with fail
        refine (impl_SystemText lc _ _ O_c.out.rd (by have := LC.out; omega)).mono ?_
        rintro e w23 ⟨rfl, hb⟩
        replace O_p := Lib.hid (Own.below O_p.out hb)
        replace O_q := Lib.hid (Own.below O_q.out hb)
        replace O_c := Lib.hid (Own.below O_c.out hb)
        replace O_cv := Lib.hid (Own.below O_cv.out hb)
        replace Y1 := Lib.hid (RdY.below Y1.out hb); replace Y2 := Lib.hid (RdY.below Y2.out hb)
        replace D := Lib.hid (Below.step D.out hb)
        clear hb
        go_wp2_with fail
        refine (impl_SystemText (res_CoverSystem lc) _ _ O_cv.out.rd (Nat.le_trans (len_CoverSystem lc) (by omega))).mono ?_
        rintro e w24 ⟨rfl, hb⟩
        replace O_p := Lib.hid (Own.below O_p.out hb)
        replace O_q := Lib.hid (Own.below O_q.out hb)
        replace O_c := Lib.hid (Own.below O_c.out hb)
        replace O_cv := Lib.hid (Own.below O_cv.out hb)
        replace Y1 := Lib.hid (RdY.below Y1.out hb); replace Y2 := Lib.hid (RdY.below Y2.out hb)
        replace D := Lib.hid (Below.step D.out hb)
        clear hb
        rw [F4.out]
        go_wp2_with fail
        refine (impl_OuterArches (res_CoverSystem lc) _ _ O_cv.out.rd (Nat.le_trans (len_CoverSystem lc) (by omega))).mono ?_
        rintro e w25 ⟨v_o, rfl, ho, hb⟩
        obtain ⟨oa, oc, rfl, _⟩ := ho.form
        rw [F5.out]
        clear ho
        replace O_p := Lib.hid (Own.below O_p.out hb)
        replace O_q := Lib.hid (Own.below O_q.out hb)
        replace O_c := Lib.hid (Own.below O_c.out hb)
        replace O_cv := Lib.hid (Own.below O_cv.out hb)
        replace Y1 := Lib.hid (RdY.below Y1.out hb); replace Y2 := Lib.hid (RdY.below Y2.out hb)
        replace D := Lib.hid (Below.step D.out hb)
        clear hb
        go_wp2_with fail
        go_meet
        case rel => exact D.out
  case rest =>
  as_aux_lemma =>
  have hb := hcut.out; clear hcut
  generalize wc = w26 at *
  replace O_p := Lib.hid (Own.below O_p.out hb)
  replace O_q := Lib.hid (Own.below O_q.out hb)
  replace O_c := Lib.hid (Own.below O_c.out hb)
  replace O_cv := Lib.hid (Own.below O_cv.out hb)
  replace Y1 := Lib.hid (RdY.below Y1.out hb); replace Y2 := Lib.hid (RdY.below Y2.out hb)
  replace C := Lib.hid (Below.step C.out hb)
  clear hb
  clear hT
  clear O_c
  clear O_cv
  go_wp2_with fail
  refine (drawRainbowOf_any _ l1 _ Y1.out).mono ?_
  rintro e w27 ⟨x, rfl, hx, hb⟩
  clear hx
  replace O_p := Lib.hid (Own.below O_p.out hb)
  replace O_q := Lib.hid (Own.below O_q.out hb)
  replace Y1 := Lib.hid (RdY.below Y1.out hb); replace Y2 := Lib.hid (RdY.below Y2.out hb)
  replace C := Lib.hid (Below.step C.out hb)
  clear hb
  go_wp2_with fail
  refine (impl_RainbowOf x _).mono ?_
  rintro e w28 ⟨v_ra, rfl, ho, hb⟩
  obtain ⟨raa, ran, rac, rfl⟩ := ho.form'
  replace O_p := Lib.hid (Own.below O_p.out hb)
  replace O_q := Lib.hid (Own.below O_q.out hb)
  replace Y1 := Lib.hid (RdY.below Y1.out hb); replace Y2 := Lib.hid (RdY.below Y2.out hb)
  replace C := Lib.hid (Below.step C.out hb)
  clear hb
  have O_ra := Lib.hid ho; clear ho
  go_wp2_with fail
  refine (impl_FlatOf x _).mono ?_
  rintro e w29 ⟨v_fl, rfl, ho, hb⟩
  obtain ⟨fla, fln, flc, rfl⟩ := ho.form'
  replace O_p := Lib.hid (Own.below O_p.out hb)
  replace O_q := Lib.hid (Own.below O_q.out hb)
  replace O_ra := Lib.hid (Own.below O_ra.out hb)
  replace Y1 := Lib.hid (RdY.below Y1.out hb); replace Y2 := Lib.hid (RdY.below Y2.out hb)
  replace C := Lib.hid (Below.step C.out hb)
  clear hb
  have O_fl := Lib.hid ho; clear ho
  go_wp2_with fail
  refine (spec_RainbowOf x _).mono ?_
  rintro e w30 ⟨v_rw, rfl, ho, hb⟩
  obtain ⟨rwa, rwn, rwc, rfl⟩ := ho.form'
  replace O_p := Lib.hid (Own.below O_p.out hb)
  replace O_q := Lib.hid (Own.below O_q.out hb)
  replace O_ra := Lib.hid (Own.below O_ra.out hb)
  replace O_fl := Lib.hid (Own.below O_fl.out hb)
  replace Y1 := Lib.hid (RdY.below Y1.out hb); replace Y2 := Lib.hid (RdY.below Y2.out hb)
  replace C := Lib.hid (Below.step C.out hb)
  clear hb
  have O_rw := Lib.hid ho; clear ho
  go_wp2_with fail
  refine (spec_FlatOf x _).mono ?_
  rintro e w31 ⟨v_fw, rfl, ho, hb⟩
  obtain ⟨fwa, fwn, fwc, rfl⟩ := ho.form'
  replace O_p := Lib.hid (Own.below O_p.out hb)
  replace O_q := Lib.hid (Own.below O_q.out hb)
  replace O_ra := Lib.hid (Own.below O_ra.out hb)
  replace O_fl := Lib.hid (Own.below O_fl.out hb)
  replace O_rw := Lib.hid (Own.below O_rw.out hb)
  replace Y1 := Lib.hid (RdY.below Y1.out hb); replace Y2 := Lib.hid (RdY.below Y2.out hb)
  replace C := Lib.hid (Below.step C.out hb)
  clear hb
  have O_fw := Lib.hid ho; clear ho
  go_wp2_with fail
  refine (sSame_yes _ _ _ _ _ O_ra.out.rd O_rw.out.rd rfl).mono ?_
  rintro e w32 ⟨rfl, hb⟩
  replace O_p := Lib.hid (Own.below O_p.out hb)
  replace O_q := Lib.hid (Own.below O_q.out hb)
  replace O_ra := Lib.hid (Own.below O_ra.out hb)
  replace O_fl := Lib.hid (Own.below O_fl.out hb)
  replace O_rw := Lib.hid (Own.below O_rw.out hb)
  replace O_fw := Lib.hid (Own.below O_fw.out hb)
  replace Y1 := Lib.hid (RdY.below Y1.out hb); replace Y2 := Lib.hid (RdY.below Y2.out hb)
  replace C := Lib.hid (Below.step C.out hb)
  clear hb
  go_wp2_with fail
  refine (sSame_yes _ _ _ _ _ O_fl.out.rd O_fw.out.rd rfl).mono ?_
  rintro e w33 ⟨rfl, hb⟩
  replace O_p := Lib.hid (Own.below O_p.out hb)
  replace O_q := Lib.hid (Own.below O_q.out hb)
  replace O_ra := Lib.hid (Own.below O_ra.out hb)
  replace O_fl := Lib.hid (Own.below O_fl.out hb)
  replace O_rw := Lib.hid (Own.below O_rw.out hb)
  replace O_fw := Lib.hid (Own.below O_fw.out hb)
  replace Y1 := Lib.hid (RdY.below Y1.out hb); replace Y2 := Lib.hid (RdY.below Y2.out hb)
  replace C := Lib.hid (Below.step C.out hb)
  clear hb
  clear O_rw
  clear O_fw
  generalize hT : ok_RainbowOf x = okT at *
  go_upto_if 285 with fail
  go_cut [] (fun wx => Hid (Below w33.heap.size w33 wx))
  case first =>
    as_aux_lemma =>
      have D : Hid (Below w33.heap.size w33 w33) := Below.refl _ _
      cases okT with
      | false =>
        go_wp2_with fail
        go_meet
        case rel => exact D.out
      | true =>
        obtain ⟨f1, f2, f3, f4, f5, f6, hnn⟩ := law_rain hT
        generalize x.toNat = nn at f6 hnn
        have F4 := Lib.hid f4; have F5 := Lib.hid f5; have F6 := Lib.hid f6; clear f4 f5 f6 hT
        go_wp2_with fail
        refine (impl_MirrorSystem (res_RainbowOf x) _ _ O_ra.out.rd (Nat.le_trans (len_RainbowOf x) (by omega))).mono ?_
        rintro e w34 ⟨v_u, rfl, ho, hb⟩
        obtain ⟨ua, un, uc, rfl⟩ := ho.form'
        replace O_p := Lib.hid (Own.below O_p.out hb)
        replace O_q := Lib.hid (Own.below O_q.out hb)
        replace O_ra := Lib.hid (Own.below O_ra.out hb)
        replace O_fl := Lib.hid (Own.below O_fl.out hb)
        replace Y1 := Lib.hid (RdY.below Y1.out hb); replace Y2 := Lib.hid (RdY.below Y2.out hb)
        replace D := Lib.hid (Below.step D.out hb)
        clear hb
        have O_u := Lib.hid ho; clear ho
        go_wp2_with fail
        refine (impl_MirrorSystem (res_FlatOf x) _ _ O_fl.out.rd (Nat.le_trans (len_FlatOf x) (by omega))).mono ?_
        rintro e w35 ⟨v_v, rfl, ho, hb⟩
        obtain ⟨va, vn, vc, rfl⟩ := ho.form'
        replace O_p := Lib.hid (Own.below O_p.out hb)
        replace O_q := Lib.hid (Own.below O_q.out hb)
        replace O_ra := Lib.hid (Own.below O_ra.out hb)
        replace O_fl := Lib.hid (Own.below O_fl.out hb)
        replace O_u := Lib.hid (Own.below O_u.out hb)
        replace Y1 := Lib.hid (RdY.below Y1.out hb); replace Y2 := Lib.hid (RdY.below Y2.out hb)
        replace D := Lib.hid (Below.step D.out hb)
        clear hb
        have O_v := Lib.hid ho; clear ho
        go_wp2_with fail
        refine (impl_DepthsOf (res_RainbowOf x) _ _ O_ra.out.rd (Nat.le_trans (len_RainbowOf x) (by omega))).mono ?_
        rintro e w36 ⟨v_d, rfl, ho, hb⟩
        rw [F6.out] at ho
        obtain ⟨da, dc, rfl, _⟩ := ho.form
        rw [List.length_map, List.length_range] at *
        replace O_p := Lib.hid (Own.below O_p.out hb)
        replace O_q := Lib.hid (Own.below O_q.out hb)
        replace O_ra := Lib.hid (Own.below O_ra.out hb)
        replace O_fl := Lib.hid (Own.below O_fl.out hb)
        replace O_u := Lib.hid (Own.below O_u.out hb)
        replace O_v := Lib.hid (Own.below O_v.out hb)
        replace Y1 := Lib.hid (RdY.below Y1.out hb); replace Y2 := Lib.hid (RdY.below Y2.out hb)
        replace D := Lib.hid (Below.step D.out hb)
        clear hb
        have O_d := Lib.hid ho; clear ho
        go_wp2_with fail
        refine (sSame_yes _ _ _ _ _ O_u.out.rd O_ra.out.rd F4.out).mono ?_
        rintro e w37 ⟨rfl, hb⟩
        replace O_p := Lib.hid (Own.below O_p.out hb)
        replace O_q := Lib.hid (Own.below O_q.out hb)
        replace O_ra := Lib.hid (Own.below O_ra.out hb)
        replace O_fl := Lib.hid (Own.below O_fl.out hb)
        replace O_u := Lib.hid (Own.below O_u.out hb)
        replace O_v := Lib.hid (Own.below O_v.out hb)
        replace O_d := Lib.hid (Own.below O_d.out hb)
        replace Y1 := Lib.hid (RdY.below Y1.out hb); replace Y2 := Lib.hid (RdY.below Y2.out hb)
        replace D := Lib.hid (Below.step D.out hb)
        clear hb
        go_wp2_with fail
        refine (sSame_yes _ _ _ _ _ O_v.out.rd O_fl.out.rd F5.out).mono ?_
        rintro e w38 ⟨rfl, hb⟩
        replace O_p := Lib.hid (Own.below O_p.out hb)
        replace O_q := Lib.hid (Own.below O_q.out hb)
        replace O_ra := Lib.hid (Own.below O_ra.out hb)
        replace O_fl := Lib.hid (Own.below O_fl.out hb)
        replace O_u := Lib.hid (Own.below O_u.out hb)
        replace O_v := Lib.hid (Own.below O_v.out hb)
        replace O_d := Lib.hid (Own.below O_d.out hb)
        replace Y1 := Lib.hid (RdY.below Y1.out hb); replace Y2 := Lib.hid (RdY.below Y2.out hb)
        replace D := Lib.hid (Below.step D.out hb)
        clear hb
        go_wp2_with fail
        go_loop [325] (fun i => ∃ k : Nat, k ≤ nn ∧ i = .int .i64 (k : Int)) (fun i => nn - (intOf i).toNat)
        case atStart => exact ⟨0, by omega, rfl⟩
        case round =>
          obtain ⟨k, hk, rfl⟩ := hrel
          by_cases hlt : k < nn
          · obtain ⟨gd, rfl, hcd⟩ := O_d.out.get k (by simpa using hlt)
            rw [show ((List.range nn).map (fun (i : Nat) => (i : Int))).getD k 0 = (k : Int) by simp [List.getD, hlt]] at hcd
            have hlt2 : (k : Int) < (nn : Int) := by omega
            have hwk : IntKind.i64.wrap ((k : Int) + 1) = (k : Int) + 1 := IntWalk.i64_in _ (by omega)
            go_wp2_with fail
            go_round
            case rel => exact ⟨k + 1, by omega, by go_num⟩
            case measure => simp [intOf]; omega
          · obtain rfl : k = nn := by omega
            have hlt2 : ¬ (k : Int) < (k : Int) := by omega
            go_wp2_with fail
            go_meet
            case rel => exact D.out
  case rest =>
  as_aux_lemma =>
  have hb := hcut.out; clear hcut
  generalize wc = w39 at *
  replace O_p := Lib.hid (Own.below O_p.out hb)
  replace O_q := Lib.hid (Own.below O_q.out hb)
  replace O_ra := Lib.hid (Own.below O_ra.out hb)
  replace O_fl := Lib.hid (Own.below O_fl.out hb)
  replace Y1 := Lib.hid (RdY.below Y1.out hb); replace Y2 := Lib.hid (RdY.below Y2.out hb)
  replace C := Lib.hid (Below.step C.out hb)
  clear hb
  clear hT
  clear O_ra
  clear O_fl
  cases hT : ok_TurnSystem lp by_ with
  | false =>
    go_wp2_with fail
    go_ret
    exact ⟨rfl, C.out⟩
  | true =>
    obtain ⟨f1, f2, f3, f4, f5⟩ := law_turn hT
    have F2 := Lib.hid f2; have F4 := Lib.hid f4; have hneg : IntKind.i64.wrap (-by_) = -by_ := IntWalk.i64_in _ (by have := HX.out; omega)
    clear f2 f4 hT
    go_wp2_with fail
    refine (impl_TurnSystem (res_TurnSystem lp by_) (-by_) _ _ O_q.out.rd (Nat.le_trans (len_TurnSystem lp by_) (by omega))).mono ?_
    rintro e w40 ⟨v_bk, rfl, ho, hb⟩
    obtain ⟨bka, bkn, bkc, rfl⟩ := ho.form'
    replace O_p := Lib.hid (Own.below O_p.out hb)
    replace O_q := Lib.hid (Own.below O_q.out hb)
    replace Y1 := Lib.hid (RdY.below Y1.out hb); replace Y2 := Lib.hid (RdY.below Y2.out hb)
    replace C := Lib.hid (Below.step C.out hb)
    clear hb
    have O_bk := Lib.hid ho; clear ho
    obtain ⟨pa', pc', e', _⟩ := O_p.out.form
    simp only [Value.slice.injEq] at e'
    obtain ⟨rfl, rfl, rfl⟩ := e'
    go_wp2_with fail
    refine (impl_TurnSystem lp (lp.length : Int) _ _ O_p.out.rd (by have := LP.out; omega)).mono ?_
    rintro e w41 ⟨v_ro, rfl, ho, hb⟩
    obtain ⟨roa, ron, roc, rfl⟩ := ho.form'
    replace O_p := Lib.hid (Own.below O_p.out hb)
    replace O_q := Lib.hid (Own.below O_q.out hb)
    replace O_bk := Lib.hid (Own.below O_bk.out hb)
    replace Y1 := Lib.hid (RdY.below Y1.out hb); replace Y2 := Lib.hid (RdY.below Y2.out hb)
    replace C := Lib.hid (Below.step C.out hb)
    clear hb
    have O_ro := Lib.hid ho; clear ho
    go_wp2_with fail
    refine (impl_IsSystem (res_TurnSystem lp by_) _ _ O_q.out.rd (Nat.le_trans (len_TurnSystem lp by_) (by omega))).mono ?_
    rintro e w42 ⟨rfl, hb⟩
    replace O_p := Lib.hid (Own.below O_p.out hb)
    replace O_q := Lib.hid (Own.below O_q.out hb)
    replace O_bk := Lib.hid (Own.below O_bk.out hb)
    replace O_ro := Lib.hid (Own.below O_ro.out hb)
    replace Y1 := Lib.hid (RdY.below Y1.out hb); replace Y2 := Lib.hid (RdY.below Y2.out hb)
    replace C := Lib.hid (Below.step C.out hb)
    clear hb
    go_wp2_with fail
    refine (sSame_yes _ _ _ _ _ O_bk.out.rd O_p.out.rd F2.out).mono ?_
    rintro e w43 ⟨rfl, hb⟩
    replace O_p := Lib.hid (Own.below O_p.out hb)
    replace O_q := Lib.hid (Own.below O_q.out hb)
    replace O_bk := Lib.hid (Own.below O_bk.out hb)
    replace O_ro := Lib.hid (Own.below O_ro.out hb)
    replace Y1 := Lib.hid (RdY.below Y1.out hb); replace Y2 := Lib.hid (RdY.below Y2.out hb)
    replace C := Lib.hid (Below.step C.out hb)
    clear hb
    go_wp2_with fail
    refine (sSame_yes _ _ _ _ _ O_ro.out.rd O_p.out.rd F4.out).mono ?_
    rintro e w44 ⟨rfl, hb⟩
    replace O_p := Lib.hid (Own.below O_p.out hb)
    replace O_q := Lib.hid (Own.below O_q.out hb)
    replace O_bk := Lib.hid (Own.below O_bk.out hb)
    replace O_ro := Lib.hid (Own.below O_ro.out hb)
    replace Y1 := Lib.hid (RdY.below Y1.out hb); replace Y2 := Lib.hid (RdY.below Y2.out hb)
    replace C := Lib.hid (Below.step C.out hb)
    clear hb
    go_wp2_with fail
    go_ret
    exact ⟨rfl, C.out⟩
end Go.Proofs.Ytbinpefogecgmaa

namespace Go.Proofs.Ytbinpefogecgmaa.fnSystemsMoved
open Go.ChangeShapes Go.WideShapes Go.ChangeAt Go.RowKit
set_option linter.unusedVariables false
set_option linter.unusedSimpArgs false

theorem own : ownKnob Try.prog.godebug = none := by kernel_rfl
theorem laidOut : laidOutB Try.prog = true := by kernel_rfl

set_option maxRecDepth 100000 in
theorem lifted (os : Os) (started : os.Started) (H : Type) (enc : TypeId × Value → H) :
    ReturnsInHanded {} Try.checked os 4 .any (Rows.fnSystemsMovedSpec.pre6 enc Try.prog Try.f4 Rows.fnSystemsMovedRow.domain false) (Rows.fnSystemsMovedSpec.post enc Try.prog Try.f4 false true false false) := by
  refine returnsInHanded_of_change (C := Try.checked) own started (by kernel_rfl) Try.func4
    (ChangeSpec.witness6 (enc := enc) (C := Try.checked) false ⟨#[], #[.slice none 0 0, .slice none 0 0], []⟩ 8 (by kernel_rfl) (by kernel_rfl) (by kernel_rfl) (by kernel_rfl)) ?_
  intro W base args ds gs before hval0 hW hcnd _
  have hval : ∀ (j : Nat) t v, Try.f4.params[j]? = some t → args[j]? = some v → Value.okWide Try.prog W .any base t v := hval0
  have hW' := hW
  obtain ⟨p, q, hA0, hV, rfl, hfz, hnd⟩ := hW
  have hA : DataW.TrodAll enc Try.prog W 0 (fun _ => true) true Try.f4.params.toList args.toList ds p := hA0
  rw [Try.params4] at hA hval
  obtain ⟨v0, vs0, d0, ds0, p0, q0, hargs, rfl, rfl, h0, r0⟩ := trodAll_cons hA
  obtain ⟨v1, vs1, d1, ds1, p1, q1, rfl, rfl, rfl, h1, r1⟩ := trodAll_cons r0
  obtain ⟨rfl, rfl, rfl⟩ := trodAll_nil r1
  obtain rfl : args = #[v0, v1] := by cases args; simp_all
  obtain ⟨rfl, rfl⟩ := trodVars_none hV
  obtain ⟨a0, len0, cap0, rfl⟩ := okWide_slice Try.underlying22 (hval 0 22 v0 rfl rfl)
  have k0 := h0
  have lt0 : ∀ x ∈ p0, x.block < W.heap.size := by obtain ⟨m, hm⟩ := k0; exact DataW.trod_lt m _ _ _ hm
  obtain ⟨z0, w0⟩ : ∃ zs, RdY W (.slice a0 len0 cap0) zs := by
    obtain ⟨fuel, hf⟩ := h0
    rcases open_ints Try.underlying22 Try.underlying5 (by kernel_rfl) hf with ⟨hcs, _⟩ | ⟨x, l, c, zs, hcs, _, hl, hm, hz, _, hcell, hwz⟩
    · simp [Value.cells] at hcs
      obtain ⟨rfl, rfl, rfl⟩ := hcs
      exact ⟨[], rdY_nil W⟩
    · simp [Value.cells] at hcs
      obtain ⟨rfl, rfl, rfl⟩ := hcs
      exact ⟨zs.take _, rdY_row W x _ _ zs hl hm (by simpa using hz) hcell hwz⟩
  obtain ⟨a1, len1, cap1, rfl⟩ := okWide_slice Try.underlying22 (hval 1 22 v1 rfl rfl)
  have k1 := h1
  have lt1 : ∀ x ∈ p1, x.block < W.heap.size := by obtain ⟨m, hm⟩ := k1; exact DataW.trod_lt m _ _ _ hm
  obtain ⟨z1, w1⟩ : ∃ zs, RdY W (.slice a1 len1 cap1) zs := by
    obtain ⟨fuel, hf⟩ := h1
    rcases open_ints Try.underlying22 Try.underlying5 (by kernel_rfl) hf with ⟨hcs, _⟩ | ⟨x, l, c, zs, hcs, _, hl, hm, hz, _, hcell, hwz⟩
    · simp [Value.cells] at hcs
      obtain ⟨rfl, rfl, rfl⟩ := hcs
      exact ⟨[], rdY_nil W⟩
    · simp [Value.cells] at hcs
      obtain ⟨rfl, rfl, rfl⟩ := hcs
      exact ⟨zs.take _, rdY_row W x _ _ zs hl hm (by simpa using hz) hcell hwz⟩
  clear hA0 hval0
  refine (walk_SystemsMoved a0 len0 cap0 z0 a1 len1 cap1 z1 W w0 w1).mono fun e W' ⟨he, bel⟩ => ?_
  subst he
  exact ⟨_, rfl, _, _, _, [], _, [], hW', trodAll_mk1 (shut_bool Try.underlying4 _), (trodAll_cons_mk (Below.trod laidOut (by kernel_rfl) (of_decide_eq_true (by kernel_rfl)) k0 bel lt0) (trodAll_cons_mk (Below.trod laidOut (by kernel_rfl) (of_decide_eq_true (by kernel_rfl)) k1 bel lt1) trodAll_mk0)), rfl, bel.frame _, fun h => by cases h⟩

theorem over : Rows.fnSystemsMovedRow.holds Try.pinned (OpenSpec.ofChange Rows.fnSystemsMovedSpec) :=
  OpenClaim.holds_of_wide 4 Try.f4 rfl rfl rfl rfl rfl rfl rfl ⟨rfl, rfl, rfl, rfl, rfl⟩ rfl rfl rfl rfl rfl (by kernel_rfl) Try.func4 (by kernel_rfl)
    (of_decide_eq_true (by kernel_rfl)) (by unfold Func.isWrapper; first | (rw [if_pos (by decide +kernel)]; kernel_rfl) | (rw [if_neg (by decide +kernel)]; exact ⟨rfl, rfl⟩))
    (fun os started H enc _ => lifted os started H enc)

theorem proved : Rows.FnSystemsMovedSaid := over
#print axioms proved
end Go.Proofs.Ytbinpefogecgmaa.fnSystemsMoved
