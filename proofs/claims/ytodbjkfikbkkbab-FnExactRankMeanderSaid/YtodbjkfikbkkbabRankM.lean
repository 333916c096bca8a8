/- RankMeander: the program's function. -/
import Derived.Test.YtodbjkfikbkkbabRankMe
import Derived.Test.YtodbjkfikbkkbabMeWith
import Derived.Test.YtodbjkfikbkkbabCountC
import Derived.Test.YtodbjkfikbkkbabCountComp
namespace Go.Proofs.Ytodbjkfikbkkbab
open Go.RowKit
set_option linter.unusedSimpArgs false
set_option linter.unusedVariables false

def ok_RankMeander (t b : List Int) : Bool := pairOk t b && (decide (t.length / 2 ≤ 4) && decide (compsL t b = 1))
def res_RankMeander (t b : List Int) : Int := if ok_RankMeander t b then ((posP (t, b) (mcJ (t.length / 2) (allL (t.length / 2))) : Nat) : Int) else 0
theorem rm_no {t b : List Int} (h : ok_RankMeander t b = false) : res_RankMeander t b = 0 := by unfold res_RankMeander; rw [h]; rfl
theorem rm_found {t b : List Int} (hp : pairOk t b = true) (h4 : t.length / 2 ≤ 4) {k : Nat} (hk : k < (mcJ (t.length / 2) (allL (t.length / 2))).length) (e : (mcJ (t.length / 2) (allL (t.length / 2))).getD k ([], []) = (t, b)) :
    res_RankMeander t b = (k : Int) ∧ ok_RankMeander t b = true := by
  have hm : (t, b) ∈ mcJ (t.length / 2) (allL (t.length / 2)) := by rw [← e]; simp [List.getD, hk]
  have h1 : compsL t b = 1 := mcJ_one hm
  have ho : ok_RankMeander t b = true := by unfold ok_RankMeander; rw [hp, decide_eq_true h4, decide_eq_true h1]; rfl
  refine ⟨?_, ho⟩
  unfold res_RankMeander
  rw [ho]
  simp only [if_true]
  rw [posP_eq (t, b) _ k hk e (fun j hj e2 => mcJ_ne h4 (i := j) (j := k) (by omega) (by omega) hk (e2.trans e.symm))]
theorem rm_not {t b : List Int} (hp : pairOk t b = true) (h4 : t.length / 2 ≤ 4) (h : ∀ j, j < (mcJ (t.length / 2) (allL (t.length / 2))).length → (mcJ (t.length / 2) (allL (t.length / 2))).getD j ([], []) ≠ (t, b)) :
    res_RankMeander t b = 0 ∧ ok_RankMeander t b = false := by
  have ho : ok_RankMeander t b = false := by
    cases e : ok_RankMeander t b with
    | false => rfl
    | true =>
      exfalso
      unfold ok_RankMeander at e
      simp only [Bool.and_eq_true, decide_eq_true_eq] at e
      obtain ⟨g1, g2, g3⟩ := pairOk_facts hp
      have m1 := good_mem g1 h4
      have m2 := good_mem g2 (by rw [← g3]; exact h4)
      rw [← g3] at m2
      obtain ⟨j, hj, e2⟩ := List.mem_iff_getElem.1 (mcJ_in m1 m2 e.2.2)
      exact h j hj (by simpa [List.getD, hj] using e2)
  exact ⟨rm_no ho, ho⟩

set_option maxRecDepth 100000 in
theorem wp_eqlPair {ops : Array Oper} {rest : List Oper} {o : Oper} {a : Act} {w : World} {Q : Exit → Act → World → Prop} (hgd : o.guard = none) (x y : Operand) (r : TypeId) (ho : o.op = .binOp .eql 80 x y r)
    (t b p q : List Int) (hx : a.eval x = .agg (pairC t b)) (hy : a.eval y = .agg (pairC p q))
    (h : wpList Try.prog ops Q rest (a.put o.dst (.bool (sameP t b p q))) w) : wpList Try.prog ops Q (o :: rest) a w := by
  have hm : Try.prog.eqGuardType Try.prog.depth 80 = false := by kernel_rfl
  refine wpList_plain hgd fun _ hK => ?_
  unfold Oper.wp execOp
  simp only [ho, hx, hy, Sem.run_bind, run_eqGuard_agg (hm := hm), Sem.run_pure, Result.andThen_ok, run_eqlPair]
  exact hK _ _ h


set_option maxHeartbeats 4000000 in
set_option maxRecDepth 100000 in
theorem implRank_run (t b : List Int) (w : World) (u1 u2 : Value) (h1 : Rd w u1 t) (h2 : Rd w u2 b) (hp : pairOk t b = true) (h4 : t.length / 2 ≤ 4) :
    Calls Try.prog 38 #[.agg #[u1, u2]] w (GivesN w (res_RankMeander t b) (ok_RankMeander t b)) := by
  have hfound := fun k hk e => rm_found hp h4 (k := k) hk e
  have hnot := rm_not hp h4
  have hA := Box2.new 47 w u1 u2
  have B1 : Below w.heap.size w (w.alloc (.cells #[u1, u2] 47)) := Below.alloc1 w _
  have k0 := hA.c0; have k1 := hA.c1
  have hrd := readPair_any t b _ u1 u2 (h1.below B1) (h2.below B1)
  rw [hp] at hrd
  simp only [if_true] at hrd
  obtain ⟨g1, g2, g3⟩ := pairOk_facts hp
  have l1 := good_len' g1
  have l2 := good_len' g2
  have HPO := Lib.hid (fun w => pairsOf_any (t.length / 2) h4 w)
  have HAM := Lib.hid (fun B w v ho => amongN_any (t.length / 2) h4 B w v ho)
  have hlen : (mcJ (t.length / 2) (allL (t.length / 2))).length ≤ 1000 := Nat.le_trans (mcJ_le (t.length / 2) h4 _) (by have := allL_14 h4; omega)
  have HSP := Lib.hid (fun p q => sameP_iff (t := t) (b := b) (p := p) (q := q) l1 l2)
  have HSP2 := Lib.hid (fun (p q : List Int) (e : (p, q) = (t, b)) => show sameP p q t b = true by
    rw [Prod.mk.injEq] at e; obtain ⟨rfl, rfl⟩ := e; rw [sameP_iff l1 l2]; exact decide_eq_true rfl)
  have HSZ := Lib.hid (fun w => pairSize_any t b w)
  generalize mcJ (t.length / 2) (allL (t.length / 2)) = M at *
  obtain ⟨N, hN⟩ : ∃ N, N = t.length := ⟨_, rfl⟩
  obtain ⟨m, hm⟩ : ∃ m, m = t.length / 2 := ⟨_, rfl⟩
  rw [← hm] at HPO HAM h4
  rw [← hN] at HSZ
  have hd : (N : Int) / 2 = (m : Int) := by omega
  have hN12 : N ≤ 12 := by omega
  have HI := Lib.hid (inB_yes (n := (m : Int)) (lo := 0) (hi := 4) (by omega) (by omega))
  have HB := Lib.hid B1; have HR := Lib.hid hrd; have HFO := Lib.hid hfound; have HNO := Lib.hid hnot
  clear hA B1 h1 h2 hrd hfound hnot hm hN hp g1 g2 g3
  go_enter Try.func38, Try.ntmps38
  go_wp2_with fail
  refine HR.out.mono ?_
  rintro e w1 ⟨rfl, hb1⟩
  have HB1 := Lib.hid (Below.step HB.out hb1); clear hb1 k0 k1
  go_wp2_with (first
    | ((with_reducible refine wp_storePairN rfl (.tmp 4) (.tmp 11) rfl t b rfl rfl ?_); intro w2 hs2 hb2; have HS2 := Lib.hid hs2; have HB2 := Lib.hid (Below.step HB1.out hb2); clear hs2 hb2)
    | (with_reducible refine wp_loadPairG (.tmp 4) rfl w1.heap.size t b rfl HS2.out (by with_unfolding_all rfl) ?_)
    | (go_at_call 71; ((with_reducible refine (HSZ.out _).mono ?_); rintro e w3 ⟨rfl, hb3⟩; have HS3 := Lib.hid (HS2.out.below hb3); have HB3 := Lib.hid (Below.step HB2.out hb3); clear hb3 HS2 HB2))
    | (go_at_call 62; refine (isListedCount_any _ _).mono ?_; rintro e w' ⟨rfl, rfl⟩; rw [HI.out])
    | (with_reducible refine wp_loadPair rfl (.tmp 4) rfl w1.heap.size t b rfl HS3.out ?_)
    | (go_at_call 71; ((with_reducible refine (HSZ.out _).mono ?_); rintro e w4 ⟨rfl, hb4⟩; have HS4 := Lib.hid (HS3.out.below hb4); have HB4 := Lib.hid (Below.step HB3.out hb4); clear hb4 HS3 HB3))
    | (go_at_call 64; ((with_reducible refine (HPO.out _).mono ?_); rintro e w5 ⟨pv, rfl, hop, hb5⟩; have HOP := Lib.hid hop; have HS5 := Lib.hid (HS4.out.below hb5); have HB5 := Lib.hid (Below.step HB4.out hb5); obtain ⟨pa, pc, rfl, _⟩ := hop.form; clear hop hb5))
    | (go_at_call 63; ((with_reducible refine (HAM.out _ _ _ HOP.out).mono ?_); rintro e w6 ⟨mv, rfl, hom, hb6⟩; have HOM := Lib.hid hom; have HS6 := Lib.hid (HS5.out.below hb6); have HB6 := Lib.hid (Below.step HB5.out hb6); obtain ⟨ma, mc, rfl, hm1, hm2⟩ := hom.form; unfold maxLen at hm2; clear hom hb6)))
  go_loopw [28] (fun i wr => ∃ k : Nat, k ≤ M.length ∧ i = .int .i64 k ∧ Hid (∀ j, j < k → M.getD j ([], []) ≠ (t, b)) ∧ OwnP w5.heap.size wr (.slice ma M.length mc) M ∧ PairIn wr w1.heap.size t b ∧ Below w.heap.size w wr) (fun i _ => M.length - (intOf i).toNat)
  case atStart => exact ⟨0, by omega, rfl, Lib.hid (fun j hj => absurd hj (by omega)), HOM.out, HS6.out, HB6.out⟩
  case round =>
    clear HOM HS6 HB6
    obtain ⟨k, hk, rfl, HNE, hom, hpi, hbel⟩ := hrel
    generalize wr = wc at *
    by_cases hlt : k < M.length
    · obtain ⟨g, rfl, hy1, hy2, hy3, hrg, hth⟩ := hom.at (by omega)
      have hr := hrg k hlt
      have hsp := HSP2.out (M.getD k ([], [])).1 (M.getD k ([], [])).2
      have hsn : (M.getD k ([], [])) ≠ (t, b) → sameP (M.getD k ([], [])).1 (M.getD k ([], [])).2 t b = false := by
        intro hne
        cases e : sameP (M.getD k ([], [])).1 (M.getD k ([], [])).2 t b with
        | false => rfl
        | true =>
          exfalso
          apply hne
          have e2 := HSP.out (M.getD k ([], [])).1 (M.getD k ([], [])).2
          unfold sameP at e e2
          simp only [Bool.and_eq_true, beq_iff_eq] at e
          have e3 : sameP t b (M.getD k ([], [])).1 (M.getD k ([], [])).2 = true := by
            unfold sameP
            simp only [Bool.and_eq_true, beq_iff_eq]
            exact ⟨⟨e.1.1.symm, e.1.2.symm⟩, e.2.1.symm, e.2.2.symm⟩
          unfold sameP at e3
          rw [e2] at e3
          exact of_decide_eq_true e3
      have HFK := Lib.hid (HFO.out k hlt)
      generalize hpk : M.getD k ([], []) = p at *
      have HPK := Lib.hid hpk
      obtain ⟨p1, p2⟩ := p
      have HR2 := Lib.hid hr; have HOQ := Lib.hid hom; have HPI := Lib.hid hpi; have HBE := Lib.hid hbel; have HSP3 := Lib.hid hsp; have HSN := Lib.hid hsn
      clear hy1 hy2 hy3 hrg hth hr hom hpi hbel hsp hsn hpk
      by_cases hc : (p1, p2) = (t, b)
      · have HT := Lib.hid (HSP3.out hc)
        have HF2 := Lib.hid (HFK.out hc)
        clear hc
        go_wp2_with (first
          | (with_reducible refine boxP_load rfl (.tmp 31) rfl g (k * 26) p1 p2 rfl HR2.out ?_)
          | ((with_reducible refine wp_storePairN rfl (.tmp 7) (.tmp 32) rfl p1 p2 rfl rfl ?_); intro w7 hs7 hb7; have HS7 := Lib.hid hs7; have HP7 := Lib.hid (HPI.out.below hb7); have HB7 := Lib.hid (Below.step HBE.out hb7); clear hs7 hb7)
          | (with_reducible refine wp_loadPair rfl (.tmp 7) rfl wc.heap.size p1 p2 rfl HS7.out ?_)
          | (with_reducible refine wp_loadPair rfl (.tmp 4) rfl w1.heap.size t b rfl HP7.out ?_)
          | (with_reducible refine wp_eqlPair rfl (.tmp 33) (.tmp 34) _ rfl p1 p2 t b rfl rfl ?_; rw [HT.out]))
        go_ret2
        rw [HF2.out.1, HF2.out.2]
        exact ⟨rfl, HB7.out⟩
      · have HT := Lib.hid (HSN.out hc)
        have HC := Lib.hid hc
        clear hc
        go_wp2_with (first
          | (with_reducible refine boxP_load rfl (.tmp 31) rfl g (k * 26) p1 p2 rfl HR2.out ?_)
          | ((with_reducible refine wp_storePairN rfl (.tmp 7) (.tmp 32) rfl p1 p2 rfl rfl ?_); intro w7 hs7 hb7; have HS7 := Lib.hid hs7; have HP7 := Lib.hid (HPI.out.below hb7); have HB7 := Lib.hid (Below.step HBE.out hb7); have HO7 := Lib.hid (HOQ.out.below hb7); clear hs7 hb7)
          | (with_reducible refine wp_loadPair rfl (.tmp 7) rfl wc.heap.size p1 p2 rfl HS7.out ?_)
          | (with_reducible refine wp_loadPair rfl (.tmp 4) rfl w1.heap.size t b rfl HP7.out ?_)
          | (with_reducible refine wp_eqlPair rfl (.tmp 33) (.tmp 34) _ rfl p1 p2 t b rfl rfl ?_; rw [HT.out]))
        go_roundw
        case rel =>
          refine ⟨k + 1, by omega, by go_num, Lib.hid (fun j hj => ?_), HO7.out, HP7.out, HB7.out⟩
          by_cases e : j = k
          · subst e; rw [HPK.out]; exact HC.out
          · exact HNE.out j (by omega)
        case measure => simp [intOf]; omega
    · obtain rfl : k = M.length := by omega
      have HF2 := Lib.hid (HNO.out HNE.out)
      go_wp2
      go_ret2
      rw [HF2.out.1, HF2.out.2]
      exact ⟨rfl, hbel⟩

end Go.Proofs.Ytodbjkfikbkkbab
