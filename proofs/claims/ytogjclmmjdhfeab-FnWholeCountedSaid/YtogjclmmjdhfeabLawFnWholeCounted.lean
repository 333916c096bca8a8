/- The law FnWholeCounted returns true on any two byte slices: whole and simple pairs are told and counted, and pairs are counted by pieces. No condition. -/
import Derived.Test.YtogjclmmjdhfeabRows
import Derived.ProofKit
import Derived.OpenShut
import Derived.ShutString
import Derived.ChangeOld
import Derived.Below
import Derived.Lib.SmallJoins
import Derived.Deep.DeepCutAuto
import Derived.Deep.CutBlock
import Derived.Test.YtogjclmmjdhfeabCmps2
import Derived.Test.YtogjclmmjdhfeabDrawW
import Derived.Test.YtogjclmmjdhfeabFlip
import Derived.Test.YtogjclmmjdhfeabCountSystems
import Derived.Test.YtogjclmmjdhfeabCutAw
namespace Go.Proofs.Ytogjclmmjdhfeab
open Go.RowKit
set_option linter.unusedSimpArgs false
set_option linter.unusedVariables false

theorem catN_count {n : Nat} (h : n ≤ 6) : countOf (n : Int) = (catN n : Int) := by
  have : n = 0 ∨ n = 1 ∨ n = 2 ∨ n = 3 ∨ n = 4 ∨ n = 5 ∨ n = 6 := by omega
  rcases this with rfl | rfl | rfl | rfl | rfl | rfl | rfl <;> decide
def wcCheck (n : Nat) : Bool := (cntQ (List.replicate (n + 1) 0) (pairsN n)).length == n + 1 && (cntQ (List.replicate (n + 1) 0) (pairsN n)).getD 1 0 == ((((pairsN n).filter wholeP).length : Nat) : Int) && (cntQ (List.replicate (n + 1) 0) (pairsN n)).getD n 0 == ((((pairsN n).filter simpleP).length : Nat) : Int) &&
  (cntQ (List.replicate (n + 1) 0) (pairsN n)).getD 0 0 == 0 && (cntQ (List.replicate (n + 1) 0) (pairsN n)).sum == (catN n : Int) * (catN n : Int) && (List.range (n + 2)).all (fun k => decide (0 ≤ ((cntQ (List.replicate (n + 1) 0) (pairsN n)).take k).sum) && decide (((cntQ (List.replicate (n + 1) 0) (pairsN n)).take k).sum ≤ 100000)) &&
  ((pairsN n).filter wholeP).all (fun p => res_IsWhole p.1 p.2 && res_IsWhole p.2 p.1)
theorem wcCheck1 : wcCheck 1 = true := by kernel_rfl
theorem wcCheck2 : wcCheck 2 = true := by kernel_rfl
theorem wcCheck3 : wcCheck 3 = true := by kernel_rfl
theorem wcCheck4 : wcCheck 4 = true := by kernel_rfl
theorem wc_all {n : Nat} (h1 : 1 ≤ n) (h4 : n ≤ 4) : wcCheck n = true := by
  have : n = 1 ∨ n = 2 ∨ n = 3 ∨ n = 4 := by omega
  rcases this with rfl | rfl | rfl | rfl
  · exact wcCheck1
  · exact wcCheck2
  · exact wcCheck3
  · exact wcCheck4
theorem law_whole {x : Int} (h : ok_AllWhole x = true) : ∃ n : Nat, x = (n : Int) ∧ ok_CountWhole x = true ∧ ok_CountByPieces x = true ∧ ok_CountSimple x = true ∧ inB x 0 6 = true ∧ res_CountWhole x = (((res_AllWhole x).length : Nat) : Int) ∧
    1 < (res_CountByPieces x).length ∧ n < (res_CountByPieces x).length ∧ (res_CountByPieces x).getD 1 0 = (((res_AllWhole x).length : Nat) : Int) ∧ (res_CountByPieces x).getD n 0 = res_CountSimple x ∧ (res_CountByPieces x).getD 0 0 = 0 ∧
    (res_CountByPieces x).sum = countOf x * countOf x ∧ (∀ k, k ≤ (res_CountByPieces x).length → -4611686018427387904 ≤ ((res_CountByPieces x).take k).sum ∧ ((res_CountByPieces x).take k).sum ≤ 4611686018427387904) ∧ 0 ≤ countOf x ∧ countOf x ≤ 132 := by
  unfold ok_AllWhole at h
  have h1 := inB_iff.1 h
  obtain ⟨n, rfl⟩ := Int.eq_ofNat_of_zero_le (show 0 ≤ x by omega)
  have hc := wc_all (n := n) (by omega) (by omega)
  unfold wcCheck at hc
  simp only [Bool.and_eq_true, beq_iff_eq] at hc
  obtain ⟨⟨⟨⟨⟨⟨c1, c2⟩, c3⟩, c4⟩, c5⟩, c6⟩, c7⟩ := hc
  have b5 : inB (n : Int) 1 5 = true := inB_iff.2 (by omega)
  have b6 : inB (n : Int) 0 6 = true := inB_iff.2 (by omega)
  have e1 : res_CountByPieces (n : Int) = cntQ (List.replicate (n + 1) 0) (pairsN n) := by unfold res_CountByPieces; rw [h, Int.toNat_natCast]; rfl
  have e2 : res_AllWhole (n : Int) = (pairsN n).filter wholeP := by unfold res_AllWhole; rw [h, Int.toNat_natCast]; rfl
  have e3 : res_CountWhole (n : Int) = ((((pairsN n).filter wholeP).length : Nat) : Int) := by unfold res_CountWhole; rw [b5, Int.toNat_natCast]; rfl
  have e4 : res_CountSimple (n : Int) = ((((pairsN n).filter simpleP).length : Nat) : Int) := by unfold res_CountSimple; rw [h, Int.toNat_natCast]; rfl
  have hcat := catN_bd n (by omega)
  rw [e1, e2, e3, e4, catN_count (by omega), c1]
  refine ⟨n, rfl, b5, h, h, b6, rfl, by omega, by omega, c2, c3, c4, c5, fun k hk => ?_, by omega, by omega⟩
  have := List.all_eq_true.1 c6 k (List.mem_range.2 (by omega))
  simp only [Bool.and_eq_true, decide_eq_true_eq] at this
  omega
theorem law_each (x : Int) : ∀ k, k < (res_AllWhole x).length → pairOk ((res_AllWhole x).getD k ([], [])).1 ((res_AllWhole x).getD k ([], [])).2 = true ∧ res_IsWhole ((res_AllWhole x).getD k ([], [])).1 ((res_AllWhole x).getD k ([], [])).2 = true ∧ res_IsWhole ((res_AllWhole x).getD k ([], [])).2 ((res_AllWhole x).getD k ([], [])).1 = true := by
  intro k hk
  unfold res_AllWhole at hk ⊢
  cases h : inB x 1 4 with
  | false => rw [h] at hk; simp at hk
  | true =>
    rw [h] at hk
    simp only [if_true] at hk ⊢
    have h1 := inB_iff.1 h
    have hc := wc_all (n := x.toNat) (by omega) (by omega)
    unfold wcCheck at hc
    rw [Bool.and_eq_true] at hc
    have hm : ((pairsN x.toNat).filter wholeP).getD k ([], []) ∈ (pairsN x.toNat).filter wholeP := by simp [List.getD, hk]
    have := List.all_eq_true.1 hc.2 _ hm
    rw [Bool.and_eq_true] at this
    have h2 := this.1
    unfold res_IsWhole at h2
    rw [Bool.and_eq_true] at h2
    exact ⟨h2.1, this.1, this.2⟩
theorem law_flipped {t b : List Int} (h : pairOk t b = true) (h2 : res_IsWhole b t = true) : ok_FlipMeander t b = true ∧ ok_IsWhole t b = true ∧ ok_IsWhole (res1_FlipMeander t b) (res2_FlipMeander t b) = true ∧ res_IsWhole (res1_FlipMeander t b) (res2_FlipMeander t b) = true := by
  have e1 : res1_FlipMeander t b = b := by unfold res1_FlipMeander; rw [h]; rfl
  have e2 : res2_FlipMeander t b = t := by unfold res2_FlipMeander; rw [h]; rfl
  obtain ⟨g1, g2, hl⟩ := pairOk_facts h
  rw [e1, e2]
  exact ⟨h, h, by simp [ok_IsWhole, pairOk, g1, g2, hl], h2⟩

set_option maxHeartbeats 8000000 in
set_option maxRecDepth 100000 in
theorem walk_WholeCounted (b0 : Option Addr) (n0 c0 : Nat) (l1 : List Int) (b1 : Option Addr) (n1 c1 : Nat) (l2 : List Int) (w : World) (y1 : RdY w (.slice b0 n0 c0) l1) (y2 : RdY w (.slice b1 n1 c1) l2) :
    Calls Try.prog 6 #[.slice b0 n0 c0, .slice b1 n1 c1] w (Good w) := by
  have Y1 := Lib.hid y1; have Y2 := Lib.hid y2; clear y1 y2
  have C : Hid (Below w.heap.size w w) := Below.refl _ _
  have HIF : Hid (∀ b : Bool, b = true ∨ b = false) := fun b => by cases b <;> simp
  go_enter Try.func6, Try.ntmps6
  go_wp2_with fail
  refine (big_yes _ _ _ l1 _ _ _ l2 _ Y1.out Y2.out).mono ?_
  rintro e w0 ⟨b, rfl, rfl, hbig⟩
  rcases HIF.out b with rfl | rfl
  · go_wp2
    go_ret
    exact ⟨rfl, C.out⟩
  have HBIG := Lib.hid (hbig rfl)
  clear hbig
  go_wp2_with fail
  refine (drawAllWhole_any _ l1 _ Y1.out).mono ?_
  rintro e w1 ⟨x, rfl, hx, hb⟩
  have HX := Lib.hid hx; clear hx
  replace Y1 := Lib.hid (RdY.below Y1.out hb); replace Y2 := Lib.hid (RdY.below Y2.out hb)
  replace C := Lib.hid (Below.step C.out hb)
  clear hb
  go_wp2_with fail
  refine (impl_AllWhole x _).mono ?_
  rintro e w2 ⟨v_al, vs_al, rfl, ho, hb⟩
  have hr := ho.rd; clear ho
  obtain ⟨ala, alc, rfl, _⟩ := hr.form
  replace Y1 := Lib.hid (RdY.below Y1.out hb); replace Y2 := Lib.hid (RdY.below Y2.out hb)
  replace C := Lib.hid (Below.step C.out hb)
  clear hb
  have R_al := Lib.hid hr; clear hr
  go_wp2_with fail
  refine (spec_AllWhole x _).mono ?_
  rintro e w3 ⟨v_li, vs_li, rfl, ho, hb⟩
  have hr := ho; clear ho
  obtain ⟨lia, lic, rfl, _⟩ := hr.form
  replace R_al := Lib.hid (RdML.below R_al.out hb)
  replace Y1 := Lib.hid (RdY.below Y1.out hb); replace Y2 := Lib.hid (RdY.below Y2.out hb)
  replace C := Lib.hid (Below.step C.out hb)
  clear hb
  have R_li := Lib.hid hr; clear hr
  go_wp2_with fail
  refine (yPairs_yes _ _ _ _ _ _ _ _ _ R_al.out R_li.out).mono ?_
  rintro e w4 ⟨rfl, hb⟩
  replace R_al := Lib.hid (RdML.below R_al.out hb)
  replace R_li := Lib.hid (RdML.below R_li.out hb)
  replace Y1 := Lib.hid (RdY.below Y1.out hb); replace Y2 := Lib.hid (RdY.below Y2.out hb)
  replace C := Lib.hid (Below.step C.out hb)
  clear hb
  clear R_li
  have FE := Lib.hid (law_each x)
  have FT := Lib.hid (fun h => @law_whole x h)
  generalize hT : ok_AllWhole x = okT at *
  go_upto_if 65 with fail
  go_cut [] (fun wx => Hid (Below w4.heap.size w4 wx))
  case first =>
    as_aux_lemma =>
      have D : Hid (Below w4.heap.size w4 w4) := Below.refl _ _
      cases okT with
      | false =>
        go_wp2_with fail
        go_meet
        case rel => exact D.out
      | true =>
        obtain ⟨n, hxn, f1, f2, f3, f4, f5, f6, f7, f8, f9, f10, f11, f12, f13, f14⟩ := FT.out rfl
        clear FT hT
        subst hxn
        have F1 := Lib.hid f1; have F2 := Lib.hid f2; have F3 := Lib.hid f3; have F4 := Lib.hid f4; have F5 := Lib.hid f5; have F6 := Lib.hid f6; have F7 := Lib.hid f7; have F8 := Lib.hid f8; have F9 := Lib.hid f9; have F10 := Lib.hid f10; have F11 := Lib.hid f11; have F12 := Lib.hid f12; have F13 := Lib.hid (And.intro f13 f14)
        clear f1 f2 f3 f4 f5 f6 f7 f8 f9 f10 f11 f12 f13 f14
        go_wp2_with fail
        refine (impl_CountWhole (n : Int) _).mono ?_
        rintro e w5 ⟨rfl, hb⟩
        replace R_al := Lib.hid (RdML.below R_al.out hb)
        replace Y1 := Lib.hid (RdY.below Y1.out hb); replace Y2 := Lib.hid (RdY.below Y2.out hb)
        replace D := Lib.hid (Below.step D.out hb)
        clear hb
        rw [F1.out, F5.out]
        go_wp2_with fail
        refine (impl_CountByPieces (n : Int) _).mono ?_
        rintro e w6 ⟨v_pc, rfl, ho, hb⟩
        obtain ⟨pca, pcn, pcc, rfl⟩ := ho.form'
        replace R_al := Lib.hid (RdML.below R_al.out hb)
        replace Y1 := Lib.hid (RdY.below Y1.out hb); replace Y2 := Lib.hid (RdY.below Y2.out hb)
        replace D := Lib.hid (Below.step D.out hb)
        clear hb
        have O_pc := Lib.hid ho; clear ho
        rw [F2.out]
        have L_pc : Hid ((res_CountByPieces (n : Int)).length ≤ 1048576) := Nat.le_trans (len_CountByPieces (n : Int)) (by omega)
        go_wp2_with fail
        refine (impl_CountSimple (n : Int) _).mono ?_
        rintro e w7 ⟨rfl, hb⟩
        replace R_al := Lib.hid (RdML.below R_al.out hb)
        replace O_pc := Lib.hid (Own.below O_pc.out hb)
        replace Y1 := Lib.hid (RdY.below Y1.out hb); replace Y2 := Lib.hid (RdY.below Y2.out hb)
        replace D := Lib.hid (Below.step D.out hb)
        clear hb
        rw [F3.out]
        go_wp2_with fail
        refine (impl_CountSystems (n : Int) _).mono ?_
        rintro e w8 ⟨rfl, hb⟩
        replace R_al := Lib.hid (RdML.below R_al.out hb)
        replace O_pc := Lib.hid (Own.below O_pc.out hb)
        replace Y1 := Lib.hid (RdY.below Y1.out hb); replace Y2 := Lib.hid (RdY.below Y2.out hb)
        replace D := Lib.hid (Below.step D.out hb)
        clear hb
        rw [F4.out]
        have e9 := O_pc.out.form
        obtain ⟨_, _, e9, hlc_pc, hcm_pc⟩ := e9
        simp only [Value.slice.injEq] at e9
        obtain ⟨-, rfl, rfl⟩ := e9
        unfold maxLen at hcm_pc
        obtain ⟨gp, e1, hp1⟩ := O_pc.out.get 1 F6.out
        obtain ⟨gp', e2, hpn⟩ := O_pc.out.get n F7.out
        rw [e1] at e2
        simp only [Option.some.injEq, Addr.mk.injEq, and_true] at e2
        subst e2
        subst e1
        rw [F8.out] at hp1
        rw [F9.out] at hpn
        have hp0' := (O_pc.out.get 0 (by have := F6.out; omega))
        obtain ⟨gp2, e3, hp0⟩ := hp0'
        simp only [Option.some.injEq, Addr.mk.injEq, and_true] at e3
        subst e3
        rw [F10.out] at hp0
        have HP0 : Hid (∀ w', Below w8.heap.size w8 w' → w'.cell? ⟨gp, 0, none⟩ = some (.int .i64 0)) := fun w' h => (h.cell (p := ⟨gp, 0, none⟩) (World.block_lt_of_cell? _ _ hp0)).trans hp0
        have hl1 : (1 : Int) < ((res_CountByPieces (n : Int)).length : Int) := by have := F6.out; omega
        have hln : (n : Int) < ((res_CountByPieces (n : Int)).length : Int) := by have := F7.out; omega
        have hl0 : (0 : Int) < ((res_CountByPieces (n : Int)).length : Int) := by omega
        have hmul : IntKind.i64.wrap (countOf (n : Int) * countOf (n : Int)) = countOf (n : Int) * countOf (n : Int) := IntWalk.i64_in _ (by have h1 := F13.out.1; have h2 := F13.out.2; have := Int.mul_le_mul h2 h2 h1 (by omega); have := Int.mul_nonneg h1 h1; omega)
        clear hp0
        go_wp2_with fail
        refine (ySum_any _ (res_CountByPieces (n : Int)) _ O_pc.out.rd F12.out).mono ?_
        rintro e w9 ⟨rfl, hb⟩
        rw [F11.out]
        have hp0 := HP0.out _ hb
        replace R_al := Lib.hid (RdML.below R_al.out hb)
        replace O_pc := Lib.hid (Own.below O_pc.out hb)
        replace Y1 := Lib.hid (RdY.below Y1.out hb); replace Y2 := Lib.hid (RdY.below Y2.out hb)
        replace D := Lib.hid (Below.step D.out hb)
        clear hb
        generalize res_AllWhole (n : Int) = PS at *
        generalize res_CountByPieces (n : Int) = PC at *
        generalize res_CountSimple (n : Int) = cs at *
        generalize countOf (n : Int) = cc at *
        have hal := R_al.out.form
        obtain ⟨_, _, e9, hal1, hal2⟩ := hal
        simp only [Value.slice.injEq] at e9
        obtain ⟨-, -, rfl⟩ := e9
        unfold maxLen at hal2
        go_wp2_with fail
        go_loopw [137] (fun i0 wr => ∃ k : Nat, k ≤ PS.length ∧ i0 = .int .i64 (k : Int) ∧ Hid (Below w9.heap.size w9 wr)) (fun i0 _ => PS.length - (intOf i0).toNat)
        case atStart => exact ⟨0, by omega, rfl, Below.refl _ _⟩
        case round =>
          obtain ⟨k, hk, rfl, HB⟩ := hrel
          have hb := HB.out
          generalize wr = w10 at *
          replace R_al := Lib.hid (RdML.below R_al.out hb)
          replace O_pc := Lib.hid (Own.below O_pc.out hb)
          replace Y1 := Lib.hid (RdY.below Y1.out hb); replace Y2 := Lib.hid (RdY.below Y2.out hb)
          replace D := Lib.hid (Below.step D.out hb)
          clear hb
          by_cases hlt : k < PS.length
          · 
            obtain ⟨ga, rfl, hcell, _⟩ := R_al.out.at (by omega)
            have htw := R_al.out.two
            have hc1 := hcell (k * 2) (by omega)
            have hc2 := hcell (k * 2 + 1) (by omega)
            obtain ⟨f1, f2, f3⟩ := FE.out k hlt
            obtain ⟨a1, a2⟩ := flatP_at PS k hlt
            have ho1 := R_al.out.own (k * 2) (by omega)
            have ho2 := R_al.out.own (k * 2 + 1) (by omega)
            rw [a1] at ho1
            rw [a2] at ho2
            generalize (PS.getD k ([], [])).1 = t at *
            generalize (PS.getD k ([], [])).2 = b at *
            obtain ⟨eta, etn, etc, q1⟩ := ho1.form'
            obtain ⟨eba, ebn, ebc, q2⟩ := ho2.form'
            rw [q1] at hc1 ho1
            rw [q2] at hc2 ho2
            have O_et := Lib.hid ho1; have O_eb := Lib.hid ho2
            obtain ⟨g1, g2, g3, g4⟩ := law_flipped f1 f3
            have G1 := Lib.hid g1; have G2 := Lib.hid g2; have G3 := Lib.hid g3; have G4 := Lib.hid g4; have G5 := Lib.hid f2
            have HLT : Hid (t.length ≤ 12 ∧ b.length ≤ 12) := ⟨good_len' (pairOk_facts f1).1, good_len' (pairOk_facts f1).2.1⟩
            have hlt2 : (k : Int) < (PS.length : Int) := by omega
            have HWK := Lib.hid (show IntKind.i64.wrap ((k : Int) + 1) = (k : Int) + 1 from IntWalk.i64_in _ (by omega))
            clear hcell htw f1 f2 f3 a1 a2 ho1 ho2 q1 q2 g1 g2 g3 g4
            have hb := Below.alloc1 w10 (.cells #[.slice eta etn etc, .slice eba ebn ebc] 26)
            replace R_al := Lib.hid (RdML.below R_al.out hb)
            replace HB := Lib.hid (Below.step HB.out hb)
            replace O_pc := Lib.hid (Own.below O_pc.out hb)
            replace O_et := Lib.hid (Own.below O_et.out hb)
            replace O_eb := Lib.hid (Own.below O_eb.out hb)
            replace Y1 := Lib.hid (RdY.below Y1.out hb); replace Y2 := Lib.hid (RdY.below Y2.out hb)
            replace D := Lib.hid (Below.step D.out hb)
            clear hb
            have B_m : Hid (Box2 26 (w10.alloc (.cells #[.slice eta etn etc, .slice eba ebn ebc] 26)) (w10.heap.size) (.slice eta etn etc) (.slice eba ebn ebc)) := Box2.new _ _ _ _
            have e_m0 := B_m.out.c0; have e_m1 := B_m.out.c1
            go_wp2_with fail
            refine (impl_IsWhole t b _ _ _ O_et.out.rd O_eb.out.rd (by have := HLT.out.1; omega) (by have := HLT.out.2; omega)).mono ?_
            rintro e w11 ⟨rfl, hb⟩
            clear hc1 hc2 hlt2
            rw [G2.out, G5.out]
            clear e_m0 e_m1
            replace R_al := Lib.hid (RdML.below R_al.out hb)
            replace HB := Lib.hid (Below.step HB.out hb)
            replace B_m := Lib.hid (Box2.below B_m.out hb)
            replace O_pc := Lib.hid (Own.below O_pc.out hb)
            replace O_et := Lib.hid (Own.below O_et.out hb)
            replace O_eb := Lib.hid (Own.below O_eb.out hb)
            replace Y1 := Lib.hid (RdY.below Y1.out hb); replace Y2 := Lib.hid (RdY.below Y2.out hb)
            replace D := Lib.hid (Below.step D.out hb)
            clear hb
            have e_m0 := B_m.out.c0; have e_m1 := B_m.out.c1
            go_wp2_with fail
            refine (impl_FlipMeander t b _ _ _ O_et.out.rd O_eb.out.rd (by have := HLT.out.1; omega) (by have := HLT.out.2; omega)).mono ?_
            rintro e w12 ⟨v_ft, v_fb, rfl, ho, ho2, _, hb⟩
            obtain ⟨fta, ftn, ftc, rfl⟩ := ho.form'
            obtain ⟨fba, fbn, fbc, rfl⟩ := ho2.form'
            clear e_m0 e_m1
            replace R_al := Lib.hid (RdML.below R_al.out hb)
            replace HB := Lib.hid (Below.step HB.out hb)
            replace B_m := Lib.hid (Box2.below B_m.out hb)
            replace O_pc := Lib.hid (Own.below O_pc.out hb)
            replace O_et := Lib.hid (Own.below O_et.out hb)
            replace O_eb := Lib.hid (Own.below O_eb.out hb)
            replace Y1 := Lib.hid (RdY.below Y1.out hb); replace Y2 := Lib.hid (RdY.below Y2.out hb)
            replace D := Lib.hid (Below.step D.out hb)
            clear hb
            have O_ft := Lib.hid ho; clear ho
            have O_fb := Lib.hid ho2; clear ho2
            rw [G1.out]
            have L_ft : Hid ((res1_FlipMeander t b).length ≤ 1048576) := Nat.le_trans (len_FlipMeander t b).1 (by omega)
            have L_fb : Hid ((res2_FlipMeander t b).length ≤ 1048576) := Nat.le_trans (len_FlipMeander t b).2 (by omega)
            have hb := Below.alloc1 w12 (.cells #[.slice fta ftn ftc, .slice fba fbn fbc] 26)
            replace R_al := Lib.hid (RdML.below R_al.out hb)
            replace HB := Lib.hid (Below.step HB.out hb)
            replace B_m := Lib.hid (Box2.below B_m.out hb)
            replace O_pc := Lib.hid (Own.below O_pc.out hb)
            replace O_et := Lib.hid (Own.below O_et.out hb)
            replace O_eb := Lib.hid (Own.below O_eb.out hb)
            replace O_ft := Lib.hid (Own.below O_ft.out hb)
            replace O_fb := Lib.hid (Own.below O_fb.out hb)
            replace Y1 := Lib.hid (RdY.below Y1.out hb); replace Y2 := Lib.hid (RdY.below Y2.out hb)
            replace D := Lib.hid (Below.step D.out hb)
            clear hb
            have B_f : Hid (Box2 26 (w12.alloc (.cells #[.slice fta ftn ftc, .slice fba fbn fbc] 26)) (w12.heap.size) (.slice fta ftn ftc) (.slice fba fbn fbc)) := Box2.new _ _ _ _
            have e_f0 := B_f.out.c0; have e_f1 := B_f.out.c1
            go_wp2_with fail
            refine (impl_IsWhole (res1_FlipMeander t b) (res2_FlipMeander t b) _ _ _ O_ft.out.rd O_fb.out.rd L_ft.out L_fb.out).mono ?_
            rintro e w13 ⟨rfl, hb⟩
            clear e_f0 e_f1
            replace R_al := Lib.hid (RdML.below R_al.out hb)
            replace HB := Lib.hid (Below.step HB.out hb)
            replace B_m := Lib.hid (Box2.below B_m.out hb)
            replace B_f := Lib.hid (Box2.below B_f.out hb)
            replace O_pc := Lib.hid (Own.below O_pc.out hb)
            replace O_et := Lib.hid (Own.below O_et.out hb)
            replace O_eb := Lib.hid (Own.below O_eb.out hb)
            replace O_ft := Lib.hid (Own.below O_ft.out hb)
            replace O_fb := Lib.hid (Own.below O_fb.out hb)
            replace Y1 := Lib.hid (RdY.below Y1.out hb); replace Y2 := Lib.hid (RdY.below Y2.out hb)
            replace D := Lib.hid (Below.step D.out hb)
            clear hb
            rw [G3.out, G4.out]
            have hwk := HWK.out
            go_wp2_with fail
            go_roundw
            case rel => exact ⟨k + 1, by omega, by go_num, HB.out⟩
            case measure => simp [intOf]; omega
          · obtain rfl : k = PS.length := by omega
            have hlt2 : ¬ (PS.length : Int) < (PS.length : Int) := by omega
            go_wp2_with fail
            go_meet
            case rel => exact D.out
  case rest =>
  as_aux_lemma =>
  have hb := hcut.out; clear hcut
  generalize wc = w14 at *
  replace R_al := Lib.hid (RdML.below R_al.out hb)
  replace Y1 := Lib.hid (RdY.below Y1.out hb); replace Y2 := Lib.hid (RdY.below Y2.out hb)
  replace C := Lib.hid (Below.step C.out hb)
  clear hb
  clear hT FT FE
  clear R_al
  go_wp2_with fail
  refine (drawCountWhole_any _ l2 _ Y2.out).mono ?_
  rintro e w15 ⟨k, rfl, hx, hb⟩
  clear hx
  replace Y1 := Lib.hid (RdY.below Y1.out hb); replace Y2 := Lib.hid (RdY.below Y2.out hb)
  replace C := Lib.hid (Below.step C.out hb)
  clear hb
  go_wp2_with fail
  refine (impl_CountWhole k _).mono ?_
  rintro e w16 ⟨rfl, hb⟩
  replace Y1 := Lib.hid (RdY.below Y1.out hb); replace Y2 := Lib.hid (RdY.below Y2.out hb)
  replace C := Lib.hid (Below.step C.out hb)
  clear hb
  go_wp2_with fail
  refine (spec_CountWhole k _).mono ?_
  rintro e w17 ⟨rfl, hb⟩
  replace Y1 := Lib.hid (RdY.below Y1.out hb); replace Y2 := Lib.hid (RdY.below Y2.out hb)
  replace C := Lib.hid (Below.step C.out hb)
  clear hb
  go_wp2_with fail
  refine (drawCountByPieces_any _ l2 _ Y2.out).mono ?_
  rintro e w18 ⟨j, rfl, hx, hb⟩
  clear hx
  replace Y1 := Lib.hid (RdY.below Y1.out hb); replace Y2 := Lib.hid (RdY.below Y2.out hb)
  replace C := Lib.hid (Below.step C.out hb)
  clear hb
  go_wp2_with fail
  refine (impl_CountByPieces j _).mono ?_
  rintro e w19 ⟨v_p1, rfl, ho, hb⟩
  obtain ⟨p1a, p1n, p1c, rfl⟩ := ho.form'
  replace Y1 := Lib.hid (RdY.below Y1.out hb); replace Y2 := Lib.hid (RdY.below Y2.out hb)
  replace C := Lib.hid (Below.step C.out hb)
  clear hb
  have O_p1 := Lib.hid ho; clear ho
  have L_p1 : Hid ((res_CountByPieces j).length ≤ 1048576) := Nat.le_trans (len_CountByPieces j) (by omega)
  go_wp2_with fail
  refine (spec_CountByPieces j _).mono ?_
  rintro e w20 ⟨v_p2, rfl, ho, hb⟩
  obtain ⟨p2a, p2n, p2c, rfl⟩ := ho.form'
  replace O_p1 := Lib.hid (Own.below O_p1.out hb)
  replace Y1 := Lib.hid (RdY.below Y1.out hb); replace Y2 := Lib.hid (RdY.below Y2.out hb)
  replace C := Lib.hid (Below.step C.out hb)
  clear hb
  have O_p2 := Lib.hid ho; clear ho
  have L_p2 : Hid ((res_CountByPieces j).length ≤ 1048576) := Nat.le_trans (len_CountByPieces j) (by omega)
  go_wp2_with fail
  refine (drawCountSimple_any _ l2 _ Y2.out).mono ?_
  rintro e w21 ⟨i, rfl, hx, hb⟩
  clear hx
  replace O_p1 := Lib.hid (Own.below O_p1.out hb)
  replace O_p2 := Lib.hid (Own.below O_p2.out hb)
  replace Y1 := Lib.hid (RdY.below Y1.out hb); replace Y2 := Lib.hid (RdY.below Y2.out hb)
  replace C := Lib.hid (Below.step C.out hb)
  clear hb
  go_wp2_with fail
  refine (impl_CountSimple i _).mono ?_
  rintro e w22 ⟨rfl, hb⟩
  replace O_p1 := Lib.hid (Own.below O_p1.out hb)
  replace O_p2 := Lib.hid (Own.below O_p2.out hb)
  replace Y1 := Lib.hid (RdY.below Y1.out hb); replace Y2 := Lib.hid (RdY.below Y2.out hb)
  replace C := Lib.hid (Below.step C.out hb)
  clear hb
  go_wp2_with fail
  refine (spec_CountSimple i _).mono ?_
  rintro e w23 ⟨rfl, hb⟩
  replace O_p1 := Lib.hid (Own.below O_p1.out hb)
  replace O_p2 := Lib.hid (Own.below O_p2.out hb)
  replace Y1 := Lib.hid (RdY.below Y1.out hb); replace Y2 := Lib.hid (RdY.below Y2.out hb)
  replace C := Lib.hid (Below.step C.out hb)
  clear hb
  go_wp2_with fail
  refine (ySame_yes _ _ _ _ _ O_p1.out.rd O_p2.out.rd rfl).mono ?_
  rintro e w24 ⟨rfl, hb⟩
  replace O_p1 := Lib.hid (Own.below O_p1.out hb)
  replace O_p2 := Lib.hid (Own.below O_p2.out hb)
  replace Y1 := Lib.hid (RdY.below Y1.out hb); replace Y2 := Lib.hid (RdY.below Y2.out hb)
  replace C := Lib.hid (Below.step C.out hb)
  clear hb
  go_wp2_with fail
  go_ret
  exact ⟨rfl, C.out⟩
end Go.Proofs.Ytogjclmmjdhfeab

namespace Go.Proofs.Ytogjclmmjdhfeab.fnWholeCounted
open Go.ChangeShapes Go.WideShapes Go.ChangeAt Go.RowKit
set_option linter.unusedVariables false
set_option linter.unusedSimpArgs false

theorem own : ownKnob Try.prog.godebug = none := by kernel_rfl
theorem laidOut : laidOutB Try.prog = true := by kernel_rfl

set_option maxRecDepth 100000 in
theorem lifted (os : Os) (started : os.Started) (H : Type) (enc : TypeId × Value → H) :
    ReturnsInHanded {} Try.checked os 6 .any (Rows.fnWholeCountedSpec.pre6 enc Try.prog Try.f6 Rows.fnWholeCountedRow.domain false) (Rows.fnWholeCountedSpec.post enc Try.prog Try.f6 false true false false) := by
  refine returnsInHanded_of_change (C := Try.checked) own started (by kernel_rfl) Try.func6
    (ChangeSpec.witness6 (enc := enc) (C := Try.checked) false ⟨#[], #[.slice none 0 0, .slice none 0 0], []⟩ 8 (by kernel_rfl) (by kernel_rfl) (by kernel_rfl) (by kernel_rfl)) ?_
  intro W base args ds gs before hval0 hW hcnd _
  have hval : ∀ (j : Nat) t v, Try.f6.params[j]? = some t → args[j]? = some v → Value.okWide Try.prog W .any base t v := hval0
  have hW' := hW
  obtain ⟨p, q, hA0, hV, rfl, hfz, hnd⟩ := hW
  have hA : DataW.TrodAll enc Try.prog W 0 (fun _ => true) true Try.f6.params.toList args.toList ds p := hA0
  rw [Try.params6] at hA hval
  obtain ⟨v0, vs0, d0, ds0, p0, q0, hargs, rfl, rfl, h0, r0⟩ := trodAll_cons hA
  obtain ⟨v1, vs1, d1, ds1, p1, q1, rfl, rfl, rfl, h1, r1⟩ := trodAll_cons r0
  obtain ⟨rfl, rfl, rfl⟩ := trodAll_nil r1
  obtain rfl : args = #[v0, v1] := by cases args; simp_all
  obtain ⟨rfl, rfl⟩ := trodVars_none hV
  obtain ⟨a0, len0, cap0, rfl⟩ := okWide_slice Try.underlying22 (hval 0 22 v0 rfl rfl)
  have k0 := h0
  have lt0 : ∀ x ∈ p0, x.block < W.heap.size := by obtain ⟨m, hm⟩ := k0; exact DataW.trod_lt m _ _ _ hm
  obtain ⟨z0, w0⟩ : ∃ zs, RdY W (.slice a0 len0 cap0) zs := by
    obtain ⟨fuel, hf⟩ := h0
    rcases open_ints Try.underlying22 Try.underlying5 (by kernel_rfl) hf with ⟨hcs, _⟩ | ⟨x, l, c, zs, hcs, _, hl, hm, hz, _, hcell, hwz⟩
    · simp [Value.cells] at hcs
      obtain ⟨rfl, rfl, rfl⟩ := hcs
      exact ⟨[], rdY_nil W⟩
    · simp [Value.cells] at hcs
      obtain ⟨rfl, rfl, rfl⟩ := hcs
      exact ⟨zs.take _, rdY_row W x _ _ zs hl hm (by simpa using hz) hcell hwz⟩
  obtain ⟨a1, len1, cap1, rfl⟩ := okWide_slice Try.underlying22 (hval 1 22 v1 rfl rfl)
  have k1 := h1
  have lt1 : ∀ x ∈ p1, x.block < W.heap.size := by obtain ⟨m, hm⟩ := k1; exact DataW.trod_lt m _ _ _ hm
  obtain ⟨z1, w1⟩ : ∃ zs, RdY W (.slice a1 len1 cap1) zs := by
    obtain ⟨fuel, hf⟩ := h1
    rcases open_ints Try.underlying22 Try.underlying5 (by kernel_rfl) hf with ⟨hcs, _⟩ | ⟨x, l, c, zs, hcs, _, hl, hm, hz, _, hcell, hwz⟩
    · simp [Value.cells] at hcs
      obtain ⟨rfl, rfl, rfl⟩ := hcs
      exact ⟨[], rdY_nil W⟩
    · simp [Value.cells] at hcs
      obtain ⟨rfl, rfl, rfl⟩ := hcs
      exact ⟨zs.take _, rdY_row W x _ _ zs hl hm (by simpa using hz) hcell hwz⟩
  clear hA0 hval0
  refine (walk_WholeCounted a0 len0 cap0 z0 a1 len1 cap1 z1 W w0 w1).mono fun e W' ⟨he, bel⟩ => ?_
  subst he
  exact ⟨_, rfl, _, _, _, [], _, [], hW', trodAll_mk1 (shut_bool Try.underlying4 _), (trodAll_cons_mk (Below.trod laidOut (by kernel_rfl) (of_decide_eq_true (by kernel_rfl)) k0 bel lt0) (trodAll_cons_mk (Below.trod laidOut (by kernel_rfl) (of_decide_eq_true (by kernel_rfl)) k1 bel lt1) trodAll_mk0)), rfl, bel.frame _, fun h => by cases h⟩

theorem over : Rows.fnWholeCountedRow.holds Try.pinned (OpenSpec.ofChange Rows.fnWholeCountedSpec) :=
  OpenClaim.holds_of_wide 6 Try.f6 rfl rfl rfl rfl rfl rfl rfl ⟨rfl, rfl, rfl, rfl, rfl⟩ rfl rfl rfl rfl rfl (by kernel_rfl) Try.func6 (by kernel_rfl)
    (of_decide_eq_true (by kernel_rfl)) (by unfold Func.isWrapper; first | (rw [if_pos (by decide +kernel)]; kernel_rfl) | (rw [if_neg (by decide +kernel)]; exact ⟨rfl, rfl⟩))
    (fun os started H enc _ => lifted os started H enc)

theorem proved : Rows.FnWholeCountedSaid := over
#print axioms proved
end Go.Proofs.Ytogjclmmjdhfeab.fnWholeCounted
