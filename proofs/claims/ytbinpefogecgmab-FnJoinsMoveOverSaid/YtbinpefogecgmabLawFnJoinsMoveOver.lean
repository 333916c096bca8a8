/- The law FnJoinsMoveOver returns true on any two byte slices: a join of neighbours can be moved from one side to the other, and both pairs have as many components, curves that are closed by it counted. No condition. -/
import Derived.Test.YtbinpefogecgmabRows
import Derived.ProofKit
import Derived.OpenShut
import Derived.ShutString
import Derived.ChangeOld
import Derived.Below
import Derived.Lib.SmallJoins
import Derived.Deep.DeepCutAuto
import Derived.Deep.CutBlock
import Derived.Test.YtbinpefogecgmabCmps
import Derived.Test.YtbinpefogecgmabDrawJ
import Derived.Test.YtbinpefogecgmabJoinF
import Derived.Test.YtbinpefogecgmabSystems
import Derived.Test.YtbinpefogecgmabIsSystem
import Derived.Test.YtbinpefogecgmabClosing
namespace Go.Proofs.Ytbinpefogecgmab
open Go.RowKit
set_option linter.unusedSimpArgs false
set_option linter.unusedVariables false

theorem over_bd (t b : List Int) : 0 ≤ res_ComponentsOf t b ∧ res_ComponentsOf t b ≤ 12 := by
  unfold res_ComponentsOf
  cases h : pairOk t b with
  | true =>
    have h1 := good_len' (pairOk_facts h).1
    have h2 := compsL_le t b
    rw [if_pos rfl]; omega
  | false => rw [if_neg (by simp)]; omega
theorem loop_bd (l : List Int) (i : Int) : 0 ≤ res2_JoinedSystem l i ∧ res2_JoinedSystem l i ≤ 1 := by
  unfold res2_JoinedSystem
  (repeat' split) <;> omega
theorem law_rows {l : List Int} (h : goodB l = true) : ∃ m : Nat, (l.length : Int) / 2 = (m : Int) ∧ ok_AllSystems (m : Int) = true ∧ 0 < (res_AllSystems (m : Int)).length ∧ (res_AllSystems (m : Int)).length ≤ 132 ∧
    ∀ k, k < (res_AllSystems (m : Int)).length → goodB ((res_AllSystems (m : Int)).getD k []) = true ∧ ((res_AllSystems (m : Int)).getD k []).length = l.length := by
  have h1 := good_len' h
  have h2 := (good_facts h).1
  refine ⟨l.length / 2, by omega, ?_⟩
  have ho : ok_AllSystems ((l.length / 2 : Nat) : Int) = true := by unfold ok_AllSystems; exact inB_iff.2 (by omega)
  have e : res_AllSystems ((l.length / 2 : Nat) : Int) = allL (l.length / 2) := by unfold res_AllSystems; rw [ho, Int.toNat_natCast]; rfl
  rw [e]
  have hc := catN_bd (l.length / 2) (by omega)
  have ha := allL_length (n := l.length / 2) (by omega)
  refine ⟨ho, by omega, by omega, fun k hk => ?_⟩
  have := allL_good (n := l.length / 2) (by omega) hk
  exact ⟨this.1, by rw [this.2]; omega⟩

set_option maxHeartbeats 8000000 in
set_option maxRecDepth 100000 in
theorem walk_JoinsMoveOver (b0 : Option Addr) (n0 c0 : Nat) (l1 : List Int) (b1 : Option Addr) (n1 c1 : Nat) (l2 : List Int) (w : World) (y1 : RdY w (.slice b0 n0 c0) l1) (y2 : RdY w (.slice b1 n1 c1) l2) :
    Calls Try.prog 4 #[.slice b0 n0 c0, .slice b1 n1 c1] w (Good w) := by
  have Y1 := Lib.hid y1; have Y2 := Lib.hid y2; clear y1 y2
  have C : Hid (Below w.heap.size w w) := Below.refl _ _
  have HIF : Hid (∀ b : Bool, b = true ∨ b = false) := fun b => by cases b <;> simp
  go_enter Try.func4, Try.ntmps4
  go_wp2_with fail
  refine (big_yes _ _ _ l1 _ _ _ l2 _ Y1.out Y2.out).mono ?_
  rintro e w0 ⟨b, rfl, rfl, hbig⟩
  rcases HIF.out b with rfl | rfl
  · go_wp2
    go_ret
    exact ⟨rfl, C.out⟩
  have HBIG := Lib.hid (hbig rfl)
  clear hbig
  go_wp2_with fail
  refine (drawJoinedSystem_any _ l1 _ Y1.out).mono ?_
  rintro e w1 ⟨v_p, lp, x, rfl, ho, hl, hx, hb⟩
  obtain ⟨pa, pn, pc, rfl⟩ := ho.form'
  have LP := Lib.hid hl; clear hl hx
  replace Y1 := Lib.hid (RdY.below Y1.out hb); replace Y2 := Lib.hid (RdY.below Y2.out hb)
  replace C := Lib.hid (Below.step C.out hb)
  clear hb
  have O_p := Lib.hid ho; clear ho
  go_wp2_with fail
  refine (impl_JoinedSystem lp x _ _ O_p.out.rd (by have := LP.out; omega)).mono ?_
  rintro e w2 ⟨v_q, rfl, ho, hb⟩
  obtain ⟨qa, qn, qc, rfl⟩ := ho.form'
  replace O_p := Lib.hid (Own.below O_p.out hb)
  replace Y1 := Lib.hid (RdY.below Y1.out hb); replace Y2 := Lib.hid (RdY.below Y2.out hb)
  replace C := Lib.hid (Below.step C.out hb)
  clear hb
  have O_q := Lib.hid ho; clear ho
  have L_q : Hid ((res_JoinedSystem lp x).length ≤ 1048576) := Nat.le_trans (len_JoinedSystem lp x) (by omega)
  go_wp2_with fail
  refine (spec_JoinedSystem lp x _ _ O_p.out.rd (by have := LP.out; omega)).mono ?_
  rintro e w3 ⟨v_r, rfl, ho, hb⟩
  obtain ⟨ra, rn, rc, rfl⟩ := ho.form'
  replace O_p := Lib.hid (Own.below O_p.out hb)
  replace O_q := Lib.hid (Own.below O_q.out hb)
  replace Y1 := Lib.hid (RdY.below Y1.out hb); replace Y2 := Lib.hid (RdY.below Y2.out hb)
  replace C := Lib.hid (Below.step C.out hb)
  clear hb
  have O_r := Lib.hid ho; clear ho
  have L_r : Hid ((res_JoinedSystem lp x).length ≤ 1048576) := Nat.le_trans (len_JoinedSystem lp x) (by omega)
  go_wp2_with fail
  refine (sSame_yes _ _ _ _ _ O_q.out.rd O_r.out.rd rfl).mono ?_
  rintro e w4 ⟨rfl, hb⟩
  replace O_p := Lib.hid (Own.below O_p.out hb)
  replace O_q := Lib.hid (Own.below O_q.out hb)
  replace O_r := Lib.hid (Own.below O_r.out hb)
  replace Y1 := Lib.hid (RdY.below Y1.out hb); replace Y2 := Lib.hid (RdY.below Y2.out hb)
  replace C := Lib.hid (Below.step C.out hb)
  clear hb
  clear O_r
  generalize hT : ok_JoinedSystem lp x = okT at *
  cases okT with
  | false =>
    go_wp2_with fail
    go_ret
    exact ⟨rfl, C.out⟩
  | true =>
    obtain ⟨f1, f2, f3, f4, t, hx, ht, hc, hl⟩ := law_joined hT
    subst hx
    have F1 := Lib.hid f1; have F2 := Lib.hid f2; have F3 := Lib.hid f3; have F4 := Lib.hid f4; have HC := Lib.hid hc; have HL := Lib.hid hl; have HT := Lib.hid hT
    have hg : goodB lp = true := by unfold ok_JoinedSystem at hT; rw [Bool.and_eq_true] at hT; exact hT.1
    have HG := Lib.hid hg; have HTT := Lib.hid ht
    clear f1 f2 f3 f4 hc hl hg
    go_wp2_with fail
    refine (impl_JoinedSystem (res_JoinedSystem lp (t : Int)) (t : Int) _ _ O_q.out.rd L_q.out).mono ?_
    rintro e w5 ⟨v_ag, rfl, ho, hb⟩
    obtain ⟨aga, agn, agc, rfl⟩ := ho.form'
    replace O_p := Lib.hid (Own.below O_p.out hb)
    replace O_q := Lib.hid (Own.below O_q.out hb)
    replace Y1 := Lib.hid (RdY.below Y1.out hb); replace Y2 := Lib.hid (RdY.below Y2.out hb)
    replace C := Lib.hid (Below.step C.out hb)
    clear hb
    have O_ag := Lib.hid ho; clear ho
    rw [F1.out, F2.out]
    have L_ag : Hid ((res_JoinedSystem (res_JoinedSystem lp (t : Int)) (t : Int)).length ≤ 1048576) := Nat.le_trans (len_JoinedSystem (res_JoinedSystem lp (t : Int)) (t : Int)) (by omega)
    go_wp2_with fail
    refine (sSame_yes _ _ _ _ _ O_ag.out.rd O_q.out.rd F3.out).mono ?_
    rintro e w6 ⟨rfl, hb⟩
    replace O_p := Lib.hid (Own.below O_p.out hb)
    replace O_q := Lib.hid (Own.below O_q.out hb)
    replace O_ag := Lib.hid (Own.below O_ag.out hb)
    replace Y1 := Lib.hid (RdY.below Y1.out hb); replace Y2 := Lib.hid (RdY.below Y2.out hb)
    replace C := Lib.hid (Below.step C.out hb)
    clear hb
    clear O_ag
    go_wp2_with fail
    refine (impl_IsSystem (res_JoinedSystem lp (t : Int)) _ _ O_q.out.rd L_q.out).mono ?_
    rintro e w7 ⟨rfl, hb⟩
    replace O_p := Lib.hid (Own.below O_p.out hb)
    replace O_q := Lib.hid (Own.below O_q.out hb)
    replace Y1 := Lib.hid (RdY.below Y1.out hb); replace Y2 := Lib.hid (RdY.below Y2.out hb)
    replace C := Lib.hid (Below.step C.out hb)
    clear hb
    have e9 := O_p.out.form
    obtain ⟨_, _, e9, hlc_p, hcm_p⟩ := e9
    simp only [Value.slice.injEq] at e9
    obtain ⟨-, rfl, rfl⟩ := e9
    unfold maxLen at hcm_p
    have hok : ok_IsSystem (res_JoinedSystem lp (t : Int)) = true := F4.out
    obtain ⟨gq, e1, hcq⟩ := O_q.out.get t (by omega)
    rw [HC.out] at hcq
    have e9 := O_q.out.form
    obtain ⟨_, _, e9, hlc_q, hcm_q⟩ := e9
    simp only [Value.slice.injEq] at e9
    obtain ⟨-, rfl, rfl⟩ := e9
    unfold maxLen at hcm_q
    subst e1
    have hti : (t : Int) < ((res_JoinedSystem lp (t : Int)).length : Int) := by omega
    have hw1 : IntKind.i64.wrap ((t : Int) + 1) = (t : Int) + 1 := IntWalk.i64_in _ (by have := LP.out; have := HL.out; omega)
    obtain ⟨m, hq2, f5, f6, f7, f8⟩ := law_rows HG.out
    have HQ2 := Lib.hid hq2
    clear hq2
    have FA := Lib.hid f8; have F6 := Lib.hid f6; have F7 := Lib.hid f7; have F5 := Lib.hid f5
    clear f5 f6 f7 f8
    go_wp2_with fail
    rw [HQ2.out]
    refine (impl_AllSystems (m : Int) _).mono ?_
    rintro e w8 ⟨v_al, vs_al, rfl, ho, hb⟩
    obtain ⟨ala, alc, rfl, _⟩ := ho.form
    replace O_p := Lib.hid (Own.below O_p.out hb)
    replace O_q := Lib.hid (Own.below O_q.out hb)
    replace Y1 := Lib.hid (RdY.below Y1.out hb); replace Y2 := Lib.hid (RdY.below Y2.out hb)
    replace C := Lib.hid (Below.step C.out hb)
    clear hb
    have O_al := Lib.hid ho; clear ho
    rw [F5.out]
    generalize res_AllSystems (m : Int) = AL at *
    clear hcq hti hT ht hok
    have HOV := Lib.hid (fun s (h1 : goodB s = true) (h2 : s.length = lp.length) => law_over HT.out h1 h2)
    have C3 := Lib.hid (loop_bd lp (t : Int))
    clear F2
    generalize res2_JoinedSystem lp (t : Int) = L1 at *
    have hn2 : n1 ≤ 1048576 := HBIG.out.2
    go_wp2_with fail
    go_loopw [18] (fun i0 wr => ∃ k : Nat, k ≤ 6 ∧ i0 = .int .i64 (k : Int) ∧ Hid (Below w8.heap.size w8 wr)) (fun i0 _ => 6 - (intOf i0).toNat)
    case atStart => exact ⟨0, by omega, rfl, Below.refl _ _⟩
    case round =>
      obtain ⟨k, hk, rfl, HB⟩ := hrel
      have hb := HB.out
      generalize wr = w9 at *
      replace O_p := Lib.hid (Own.below O_p.out hb)
      replace O_q := Lib.hid (Own.below O_q.out hb)
      replace O_al := Lib.hid (OwnLL.below O_al.out hb)
      replace Y1 := Lib.hid (RdY.below Y1.out hb); replace Y2 := Lib.hid (RdY.below Y2.out hb)
      replace C := Lib.hid (Below.step C.out hb)
      clear hb
      by_cases hlt : k < 6
      · obtain ⟨ga, rfl, _, _, hcell, _⟩ := O_al.out.at F6.out
        obtain ⟨N, hN⟩ : ∃ N, AL.length = N := ⟨_, rfl⟩
        have hN0 : 0 < N := by have := F6.out; omega
        have hj : (k * 7 + n1) % N < N := Nat.mod_lt _ hN0
        obtain ⟨j, hjj⟩ : ∃ j, (k * 7 + n1) % N = j := ⟨_, rfl⟩
        have hjl : j < AL.length := by omega
        have hcj := hcell j hjl
        obtain ⟨f1, f2⟩ := FA.out j hjl
        have HRD := Lib.hid (O_al.out.own j hjl).rd
        obtain ⟨s, hs⟩ : ∃ s, AL.getD j [] = s := ⟨_, rfl⟩
        rw [hs] at f1 f2 HRD
        obtain ⟨sa, sc, e2, _⟩ := HRD.out
        rw [e2] at hcj HRD
        obtain ⟨o1, o2⟩ := HOV.out s f1 f2
        have HO2 := Lib.hid o2; have HF1 := Lib.hid f1; have HF2 := Lib.hid f2
        have hk6 : (k : Int) < 6 := by omega
        have hm1 : IntKind.i64.wrap ((k : Int) * 7) = (k : Int) * 7 := IntWalk.i64_in _ (by omega)
        have hm2 : IntKind.i64.wrap ((k : Int) * 7 + (n1 : Int)) = (k : Int) * 7 + (n1 : Int) := IntWalk.i64_in _ (by omega)
        have h9 : ((k * 7 + n1 : Nat) : Int) = (k : Int) * 7 + (n1 : Int) := by omega
        have hm7 : ((k : Int) * 7 + (n1 : Int)) % (AL.length : Int) = (j : Int) := by
          rw [hN, ← hjj]; first | rw [Int.natCast_emod, h9] | rw [Int.natCast_mod, h9] | rw [Int.ofNat_emod, h9]
        have hm3 : ((k : Int) * 7 + (n1 : Int)).tmod (AL.length : Int) = (j : Int) := by
          rw [Int.tmod_eq_emod_of_nonneg (by omega)]; exact hm7
        have hm4 : (j : Int) < (AL.length : Int) := by omega
        have hm5 : ((AL.length : Int) == 0) = false := beq_eq_false_iff_ne.2 (by omega)
        have hm6 : (AL.length : Int) ≠ 0 := by omega
        have HSL := Lib.hid (show s.length ≤ 1048576 by have := LP.out; omega)
        have HWK := Lib.hid (show IntKind.i64.wrap ((k : Int) + 1) = (k : Int) + 1 from IntWalk.i64_in _ (by omega))
        clear h9 hcell e2 hs f1 f2 o2 hjj hN hj hjl hN0
        go_wp2_with fail
        refine (impl_JoinedSystem s (t : Int) _ _ HRD.out HSL.out).mono ?_
        rintro e w31 ⟨v_t, rfl, ho, hb⟩
        obtain ⟨ta, tn, tc, rfl⟩ := ho.form'
        have HT2 := Lib.hid ho; have HB1 := Lib.hid (Below.step HB.out hb); have HR1 := Lib.hid (HRD.out.below hb); have HQ1 := Lib.hid (O_q.out.below hb); have HP1 := Lib.hid (O_p.out.below hb)
        clear ho hb hm1 hm2 hm3 hm4 hm5 hm6 hm7
        go_wp2_with fail
        refine (sCount_any (res_JoinedSystem lp (t : Int)) s _ _ _ HQ1.out.rd HR1.out (by have := len_JoinedSystem lp (t : Int); omega) HSL.out).mono ?_
        rintro e w32 ⟨rfl, hb⟩
        have HB2 := Lib.hid (Below.step HB1.out hb); have HT3 := Lib.hid (HT2.out.below hb); have HP2 := Lib.hid (HP1.out.below hb)
        clear hb
        go_wp2_with fail
        refine (sCount_any lp (res_JoinedSystem s (t : Int)) _ _ _ HP2.out.rd HT3.out.rd (by have := LP.out; omega) (by have := len_JoinedSystem s (t : Int); omega)).mono ?_
        rintro e w33 ⟨rfl, hb⟩
        have HB3 := Lib.hid (Below.step HB2.out hb)
        have c1 := over_bd (res_JoinedSystem lp (t : Int)) s; have c2 := over_bd lp (res_JoinedSystem s (t : Int)); have c3 := C3.out; have c4 := loop_bd s (t : Int)
        have ho2 := HO2.out
        clear hb HO2 HT
        generalize res_ComponentsOf (res_JoinedSystem lp (t : Int)) s = A at *
        generalize res_ComponentsOf lp (res_JoinedSystem s (t : Int)) = B at *
        generalize res2_JoinedSystem s (t : Int) = L2 at *
        obtain ⟨S, hS⟩ : ∃ S, A + L1 = S := ⟨_, rfl⟩
        have hS2 : B + L2 = S := by rw [← ho2]; exact hS
        have hw2 : IntKind.i64.wrap (A + L1) = S := by rw [← hS]; exact IntWalk.i64_in _ (by omega)
        have hw3 : IntKind.i64.wrap (B + L2) = S := by rw [← hS2]; exact IntWalk.i64_in _ (by omega)
        clear c1 c2 c3 c4
        have hwk := HWK.out
        clear ho2
        go_wp2_with fail
        go_roundw
        case rel => exact ⟨k + 1, by omega, by go_num, HB3.out⟩
        case measure => simp [intOf]; omega
      · obtain rfl : k = 6 := by omega
        go_wp2_with fail
        go_ret
        exact ⟨rfl, C.out⟩
end Go.Proofs.Ytbinpefogecgmab

namespace Go.Proofs.Ytbinpefogecgmab.fnJoinsMoveOver
open Go.ChangeShapes Go.WideShapes Go.ChangeAt Go.RowKit
set_option linter.unusedVariables false
set_option linter.unusedSimpArgs false

theorem own : ownKnob Try.prog.godebug = none := by kernel_rfl
theorem laidOut : laidOutB Try.prog = true := by kernel_rfl

set_option maxRecDepth 100000 in
theorem lifted (os : Os) (started : os.Started) (H : Type) (enc : TypeId × Value → H) :
    ReturnsInHanded {} Try.checked os 4 .any (Rows.fnJoinsMoveOverSpec.pre6 enc Try.prog Try.f4 Rows.fnJoinsMoveOverRow.domain false) (Rows.fnJoinsMoveOverSpec.post enc Try.prog Try.f4 false true false false) := by
  refine returnsInHanded_of_change (C := Try.checked) own started (by kernel_rfl) Try.func4
    (ChangeSpec.witness6 (enc := enc) (C := Try.checked) false ⟨#[], #[.slice none 0 0, .slice none 0 0], []⟩ 8 (by kernel_rfl) (by kernel_rfl) (by kernel_rfl) (by kernel_rfl)) ?_
  intro W base args ds gs before hval0 hW hcnd _
  have hval : ∀ (j : Nat) t v, Try.f4.params[j]? = some t → args[j]? = some v → Value.okWide Try.prog W .any base t v := hval0
  have hW' := hW
  obtain ⟨p, q, hA0, hV, rfl, hfz, hnd⟩ := hW
  have hA : DataW.TrodAll enc Try.prog W 0 (fun _ => true) true Try.f4.params.toList args.toList ds p := hA0
  rw [Try.params4] at hA hval
  obtain ⟨v0, vs0, d0, ds0, p0, q0, hargs, rfl, rfl, h0, r0⟩ := trodAll_cons hA
  obtain ⟨v1, vs1, d1, ds1, p1, q1, rfl, rfl, rfl, h1, r1⟩ := trodAll_cons r0
  obtain ⟨rfl, rfl, rfl⟩ := trodAll_nil r1
  obtain rfl : args = #[v0, v1] := by cases args; simp_all
  obtain ⟨rfl, rfl⟩ := trodVars_none hV
  obtain ⟨a0, len0, cap0, rfl⟩ := okWide_slice Try.underlying22 (hval 0 22 v0 rfl rfl)
  have k0 := h0
  have lt0 : ∀ x ∈ p0, x.block < W.heap.size := by obtain ⟨m, hm⟩ := k0; exact DataW.trod_lt m _ _ _ hm
  obtain ⟨z0, w0⟩ : ∃ zs, RdY W (.slice a0 len0 cap0) zs := by
    obtain ⟨fuel, hf⟩ := h0
    rcases open_ints Try.underlying22 Try.underlying5 (by kernel_rfl) hf with ⟨hcs, _⟩ | ⟨x, l, c, zs, hcs, _, hl, hm, hz, _, hcell, hwz⟩
    · simp [Value.cells] at hcs
      obtain ⟨rfl, rfl, rfl⟩ := hcs
      exact ⟨[], rdY_nil W⟩
    · simp [Value.cells] at hcs
      obtain ⟨rfl, rfl, rfl⟩ := hcs
      exact ⟨zs.take _, rdY_row W x _ _ zs hl hm (by simpa using hz) hcell hwz⟩
  obtain ⟨a1, len1, cap1, rfl⟩ := okWide_slice Try.underlying22 (hval 1 22 v1 rfl rfl)
  have k1 := h1
  have lt1 : ∀ x ∈ p1, x.block < W.heap.size := by obtain ⟨m, hm⟩ := k1; exact DataW.trod_lt m _ _ _ hm
  obtain ⟨z1, w1⟩ : ∃ zs, RdY W (.slice a1 len1 cap1) zs := by
    obtain ⟨fuel, hf⟩ := h1
    rcases open_ints Try.underlying22 Try.underlying5 (by kernel_rfl) hf with ⟨hcs, _⟩ | ⟨x, l, c, zs, hcs, _, hl, hm, hz, _, hcell, hwz⟩
    · simp [Value.cells] at hcs
      obtain ⟨rfl, rfl, rfl⟩ := hcs
      exact ⟨[], rdY_nil W⟩
    · simp [Value.cells] at hcs
      obtain ⟨rfl, rfl, rfl⟩ := hcs
      exact ⟨zs.take _, rdY_row W x _ _ zs hl hm (by simpa using hz) hcell hwz⟩
  clear hA0 hval0
  refine (walk_JoinsMoveOver a0 len0 cap0 z0 a1 len1 cap1 z1 W w0 w1).mono fun e W' ⟨he, bel⟩ => ?_
  subst he
  exact ⟨_, rfl, _, _, _, [], _, [], hW', trodAll_mk1 (shut_bool Try.underlying4 _), (trodAll_cons_mk (Below.trod laidOut (by kernel_rfl) (of_decide_eq_true (by kernel_rfl)) k0 bel lt0) (trodAll_cons_mk (Below.trod laidOut (by kernel_rfl) (of_decide_eq_true (by kernel_rfl)) k1 bel lt1) trodAll_mk0)), rfl, bel.frame _, fun h => by cases h⟩

theorem over : Rows.fnJoinsMoveOverRow.holds Try.pinned (OpenSpec.ofChange Rows.fnJoinsMoveOverSpec) :=
  OpenClaim.holds_of_wide 4 Try.f4 rfl rfl rfl rfl rfl rfl rfl ⟨rfl, rfl, rfl, rfl, rfl⟩ rfl rfl rfl rfl rfl (by kernel_rfl) Try.func4 (by kernel_rfl)
    (of_decide_eq_true (by kernel_rfl)) (by unfold Func.isWrapper; first | (rw [if_pos (by decide +kernel)]; kernel_rfl) | (rw [if_neg (by decide +kernel)]; exact ⟨rfl, rfl⟩))
    (fun os started H enc _ => lifted os started H enc)

theorem proved : Rows.FnJoinsMoveOverSaid := over
#print axioms proved
end Go.Proofs.Ytbinpefogecgmab.fnJoinsMoveOver
