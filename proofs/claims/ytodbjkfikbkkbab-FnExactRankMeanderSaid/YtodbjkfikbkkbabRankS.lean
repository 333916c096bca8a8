/- RankMeander: the model's function; what is left of the program's. -/
import Derived.Test.YtodbjkfikbkkbabRankM
import Derived.Test.YtodbjkfikbkkbabSame
namespace Go.Proofs.Ytodbjkfikbkkbab
open Go.RowKit
set_option linter.unusedSimpArgs false
set_option linter.unusedVariables false

set_option maxHeartbeats 2000000 in
set_option maxRecDepth 100000 in
theorem impl_RankMeander (t b : List Int) (w : World) (u1 u2 : Value) (h1 : Rd w u1 t) (h2 : Rd w u2 b) (m1 : t.length ≤ 1048576) (m2 : b.length ≤ 1048576) :
    Calls Try.prog 38 #[.agg #[u1, u2]] w (GivesN w (res_RankMeander t b) (ok_RankMeander t b)) := by
  by_cases hc : pairOk t b = true ∧ t.length / 2 ≤ 4
  · exact implRank_run t b w u1 u2 h1 h2 hc.1 hc.2
  · have ho : ok_RankMeander t b = false := by
      cases e : ok_RankMeander t b with
      | false => rfl
      | true =>
        exfalso
        unfold ok_RankMeander at e
        simp only [Bool.and_eq_true, decide_eq_true_eq] at e
        exact hc ⟨e.1, e.2.1⟩
    rw [rm_no ho, ho]
    have hA := Box2.new 47 w u1 u2
    have B1 : Below w.heap.size w (w.alloc (.cells #[u1, u2] 47)) := Below.alloc1 w _
    have k0 := hA.c0; have k1 := hA.c1
    have hrd := readPair_any t b _ u1 u2 (h1.below B1) (h2.below B1)
    have HB := Lib.hid B1
    clear hA B1 h1 h2 ho m1 m2
    cases hp : pairOk t b with
    | false =>
      rw [hp] at hrd
      simp only [Bool.false_eq_true, if_false] at hrd
      have HR := Lib.hid hrd
      clear hrd hp hc
      go_enter Try.func38, Try.ntmps38
      go_wp2_with fail
      refine HR.out.mono ?_
      rintro e w1 ⟨rfl, hb1⟩
      have HB1 := Lib.hid (Below.step HB.out hb1); clear hb1 k0 k1
      go_wp2_with ((with_reducible refine wp_storePairN rfl (.tmp 4) (.tmp 11) rfl [] [] rfl rfl ?_); intro w2 hs2 hb2; have HB2 := Lib.hid (Below.step HB1.out hb2); clear hs2 hb2)
      go_ret2
      exact ⟨rfl, HB2.out⟩
    | true =>
      rw [hp] at hrd
      simp only [if_true] at hrd
      have HSZ := Lib.hid (fun w => pairSize_any t b w)
      have l1 := good_len' (pairOk_facts hp).1
      obtain ⟨N, hN⟩ : ∃ N, N = t.length := ⟨_, rfl⟩
      obtain ⟨m, hm⟩ : ∃ m, m = t.length / 2 := ⟨_, rfl⟩
      have h5 : ¬ m ≤ 4 := by rw [hm]; exact fun h => hc ⟨hp, h⟩
      rw [← hN] at HSZ
      have hd : (N : Int) / 2 = (m : Int) := by omega
      have hN12 : N ≤ 12 := by omega
      have HI := Lib.hid (inB_no (n := (m : Int)) (lo := 0) (hi := 4) (by omega))
      have HR := Lib.hid hrd
      clear hrd hp hc hm hN
      go_enter Try.func38, Try.ntmps38
      go_wp2_with fail
      refine HR.out.mono ?_
      rintro e w1 ⟨rfl, hb1⟩
      have HB1 := Lib.hid (Below.step HB.out hb1); clear hb1 k0 k1
      go_wp2_with (first
        | ((with_reducible refine wp_storePairN rfl (.tmp 4) (.tmp 11) rfl t b rfl rfl ?_); intro w2 hs2 hb2; have HS2 := Lib.hid hs2; have HB2 := Lib.hid (Below.step HB1.out hb2); clear hs2 hb2)
        | (with_reducible refine wp_loadPairG (.tmp 4) rfl w1.heap.size t b rfl HS2.out (by with_unfolding_all rfl) ?_)
        | (go_at_call 71; ((with_reducible refine (HSZ.out _).mono ?_); rintro e w3 ⟨rfl, hb3⟩; have HB3 := Lib.hid (Below.step HB2.out hb3); clear hb3))
        | (go_at_call 62; refine (isListedCount_any _ _).mono ?_; rintro e w' ⟨rfl, rfl⟩; rw [HI.out]))
      go_ret2
      exact ⟨rfl, HB3.out⟩

theorem meSame_any (t b p q : List Int) (w : World) (u1 u2 v1 v2 : Value) (h1 : Rd w u1 t) (h2 : Rd w u2 b) (h3 : Rd w v1 p) (h4 : Rd w v2 q) (R : Bool) (hR : decide ((p, q) = (t, b)) = R) :
    Calls Try.prog 69 #[.agg #[u1, u2], .agg #[v1, v2]] w (Tells w R) := by
  have B1 : Below w.heap.size w ((w.alloc (.cells #[u1, u2] 47)).alloc (.cells #[v1, v2] 47)) := (Below.alloc1 w _).alloc (by simp) _
  have x1 := (Box2.new 47 w u1 u2).below (Below.alloc1 _ (.cells #[v1, v2] 47))
  have x2 := Box2.new 47 (w.alloc (.cells #[u1, u2] 47)) v1 v2
  rw [World.size_alloc] at x2
  have H1 := Lib.hid (h1.below B1); have H2 := Lib.hid (h2.below B1); have H3 := Lib.hid (h3.below B1); have H4 := Lib.hid (h4.below B1)
  have HB := Lib.hid B1
  have k0 := x1.c0; have k1 := x1.c1; have k2 := x2.c0; have k3 := x2.c1
  obtain ⟨a1, c1, rfl, _⟩ := h1
  obtain ⟨a2, c2, rfl, _⟩ := h2
  obtain ⟨a3, c3, rfl, _⟩ := h3
  obtain ⟨a4, c4, rfl, _⟩ := h4
  have e0 : R = (decide (t = p) && decide (b = q)) := by
    rw [← hR, Bool.eq_iff_iff]
    simp only [decide_eq_true_eq, Bool.and_eq_true, Prod.mk.injEq]
    exact ⟨fun h => ⟨h.1.symm, h.2.symm⟩, fun h => ⟨h.1.symm, h.2.symm⟩⟩
  clear x1 x2 B1 hR
  by_cases hp : t = p
  · have HS1 := Lib.hid (fun v1 v2 w h1 h2 => l1Same_run v1 v2 t p true w h1 h2 (decide_eq_true hp))
    have HS2 := Lib.hid (fun v1 v2 w h1 h2 => l1Same_run v1 v2 b q _ w h1 h2 rfl)
    rw [decide_eq_true hp, Bool.true_and] at e0
    rw [← e0] at HS2
    clear hp e0
    go_enter Try.func69, Try.ntmps69
    go_wp2_with fail
    refine (HS1.out _ _ _ H1.out H3.out).mono ?_
    rintro e w1 ⟨rfl, qq, rfl⟩
    go_wp2_with fail
    refine (HS2.out _ _ _ (Rd.drewN H2.out qq) (Rd.drewN H4.out qq)).mono ?_
    rintro e w2 ⟨rfl, q2, rfl⟩
    go_wp2
    go_ret
    exact ⟨rfl, below_drewN HB.out _⟩
  · have HS1 := Lib.hid (fun v1 v2 w h1 h2 => l1Same_run v1 v2 t p false w h1 h2 (decide_eq_false hp))
    rw [decide_eq_false hp, Bool.false_and] at e0
    subst e0
    clear hp
    go_enter Try.func69, Try.ntmps69
    go_wp2_with fail
    refine (HS1.out _ _ _ H1.out H3.out).mono ?_
    rintro e w1 ⟨rfl, qq, rfl⟩
    go_wp2
    go_ret
    exact ⟨rfl, below_drewN HB.out qq⟩

set_option maxHeartbeats 4000000 in
set_option maxRecDepth 100000 in
theorem specRank_run (t b : List Int) (w : World) (u1 u2 : Value) (h1 : Rd w u1 t) (h2 : Rd w u2 b) (m1 : t.length ≤ 1048576) (m2 : b.length ≤ 1048576) (hp : pairOk t b = true) (h4 : t.length / 2 ≤ 4) (hcp : compsL t b = 1) :
    Calls Try.prog 36 #[.agg #[u1, u2]] w (GivesN w (res_RankMeander t b) (ok_RankMeander t b)) := by
  have hfound := fun k hk e => rm_found hp h4 (k := k) hk e
  have hnd := fun (i j : Nat) (h : i ≠ j) hi hj => mcJ_ne (n := t.length / 2) h4 (i := i) (j := j) h hi hj
  obtain ⟨g1, g2, g3⟩ := pairOk_facts hp
  have hex : ∃ j, j < (mcJ (t.length / 2) (allL (t.length / 2))).length ∧ (mcJ (t.length / 2) (allL (t.length / 2))).getD j ([], []) = (t, b) := by
    have q1 := good_mem g1 h4
    have q2 := good_mem g2 (by rw [← g3]; exact h4)
    rw [← g3] at q2
    obtain ⟨j, hj, e2⟩ := List.mem_iff_getElem.1 (mcJ_in q1 q2 hcp)
    exact ⟨j, hj, by simpa [List.getD, hj] using e2⟩
  have hA := Box2.new 47 w u1 u2
  have B1 : Below w.heap.size w (w.alloc (.cells #[u1, u2] 47)) := Below.alloc1 w _
  have k0 := hA.c0; have k1 := hA.c1
  have hrd := mePair_any t b _ u1 u2 (h1.below B1) (h2.below B1) m1 m2
  rw [hp] at hrd
  have HT := Lib.hid (fun w h1 h2 => meCount_any t b g1 g2 g3 w u1 u2 h1 h2)
  change Hid (∀ w, Rd w u1 t → Rd w u2 b → Calls _ _ _ w fun e w' => e = .returned (.int .i64 ((compsL t b : Nat) : Int)) ∧ Below w.heap.size w w') at HT
  rw [hcp] at HT
  have HM := Lib.hid (fun w => meAll_any (t.length / 2) h4 w)
  have HSM := Lib.hid (fun (w : World) (p q : List Int) (v1 v2 : Value) (x1 : Rd w u1 t) (x2 : Rd w u2 b) (x3 : Rd w v1 p) (x4 : Rd w v2 q) (R : Bool) hR => meSame_any t b p q w u1 u2 v1 v2 x1 x2 x3 x4 R hR)
  have hlen : (mcJ (t.length / 2) (allL (t.length / 2))).length ≤ 1000 := Nat.le_trans (mcJ_le (t.length / 2) h4 _) (by have := allL_14 h4; omega)
  generalize mcJ (t.length / 2) (allL (t.length / 2)) = M at *
  have H1 := Lib.hid (h1.below B1); have H2 := Lib.hid (h2.below B1)
  obtain ⟨a1, c1, rfl, hl1, hl2, _⟩ := h1
  obtain ⟨a2, c2, rfl, hl3, hl4, _⟩ := h2
  unfold maxLen at hl2 hl4
  have l1 := good_len' g1
  obtain ⟨N, hN⟩ : ∃ N, N = t.length := ⟨_, rfl⟩
  obtain ⟨m, hm⟩ : ∃ m, m = t.length / 2 := ⟨_, rfl⟩
  rw [← hm] at HM h4
  have hd : (N : Int) / 2 = (m : Int) := by omega
  have hN12 : N ≤ 12 := by omega
  rw [← hN] at hl1 hA k0 k1 hrd HT HSM H1 H2 B1 ⊢
  obtain ⟨N2, hN2⟩ : ∃ N2, N2 = b.length := ⟨_, rfl⟩
  rw [← hN2] at hl3 hA k0 k1 hrd HT HSM H2 H1 B1 ⊢
  have HI := Lib.hid (inB_yes (n := (m : Int)) (lo := 0) (hi := 4) (by omega) (by omega))
  have HB := Lib.hid B1; have HR := Lib.hid hrd; have HFO := Lib.hid hfound; have HND := Lib.hid hnd; have HEX := Lib.hid hex; have HA := Lib.hid hA
  clear hA B1 hrd hfound hnd hm hN hp g1 g2 g3 hex hcp hN2 l1 m1 m2
  go_enter Try.func36, Try.ntmps36
  go_wp2_with fail
  refine HR.out.mono ?_
  rintro e w1 ⟨rfl, hb1⟩
  have HA1 := Lib.hid (HA.out.below hb1); have H11 := Lib.hid (H1.out.below hb1); have H21 := Lib.hid (H2.out.below hb1); have HB1 := Lib.hid (Below.step HB.out hb1)
  clear hb1 k0 k1
  have k0 := HA1.out.c0; have k1 := HA1.out.c1
  go_wp2_with fail
  refine (HT.out _ H11.out H21.out).mono ?_
  rintro e w2 ⟨rfl, hb2⟩
  have HA2 := Lib.hid (HA1.out.below hb2); have H12 := Lib.hid (H11.out.below hb2); have H22 := Lib.hid (H21.out.below hb2); have HB2 := Lib.hid (Below.step HB1.out hb2)
  clear hb2 k0 k1
  have k0 := HA2.out.c0; have k1 := HA2.out.c1
  go_wp2_with (first
    | (go_at_call 60; refine (meListed_any _ _).mono ?_; rintro e w' ⟨rfl, rfl⟩; rw [HI.out])
    | (go_at_call 61; ((with_reducible refine (HM.out _).mono ?_); rintro e w3 ⟨v, es, rfl, ho, hb3⟩; obtain ⟨ma, mc, rfl, hm1, hm2⟩ := ho.form; unfold maxLen at hm2; have HO := Lib.hid ho; have HA3 := Lib.hid (HA2.out.below hb3); have H13 := Lib.hid (H12.out.below hb3); have H23 := Lib.hid (H22.out.below hb3); have HB3 := Lib.hid (Below.step HB2.out hb3); clear ho hb3)))
  go_loopw [4, 29] (fun r i wr => ∃ k z : Nat, k ≤ M.length ∧ i = .int .i64 k ∧ r = .int .i64 (z : Int) ∧ Hid (∀ j, j < k → M.getD j ([], []) = (t, b) → z = j) ∧ OwnML w2.heap.size wr (.slice ma M.length mc) es M ∧ Box2 47 wr w.heap.size (.slice a1 N c1) (.slice a2 N2 c2) ∧ Hid (Rd wr (.slice a1 N c1) t) ∧ Hid (Rd wr (.slice a2 N2 c2) b) ∧ Below w.heap.size w wr) (fun _ i _ => M.length - (intOf i).toNat)
  case atStart => exact ⟨0, 0, by omega, rfl, rfl, Lib.hid (fun j hj => absurd hj (by omega)), HO.out, HA3.out, H13, H23, HB3.out⟩
  case round =>
    clear HO HA3 H13 H23 HB3 k0 k1
    obtain ⟨k, z, hk, rfl, rfl, HNE, hom, hA, HX1, HX2, hbel⟩ := hrel
    generalize wr = wc at *
    by_cases hlt : k < M.length
    · obtain ⟨g, rfl, d0, d1⟩ := hom.at k hlt
      obtain ⟨o1, o2, _⟩ := hom.2.2 k hlt
      have hdec : decide (((M.getD k ([], [])).1, (M.getD k ([], [])).2) = (t, b)) = decide (M.getD k ([], []) = (t, b)) := rfl
      generalize hpk : M.getD k ([], []) = p at *
      have HPK := Lib.hid hpk
      obtain ⟨p1, p2⟩ := p
      generalize (es.getD k noV).1 = v1 at *
      generalize (es.getD k noV).2 = v2 at *
      obtain ⟨x1, y1, z1, rfl⟩ := o1.form'
      obtain ⟨x2, y2, z2, rfl⟩ := o2.form'
      have hA5 := hA.below (Below.alloc1 wc (.cells #[.slice x1 y1 z1, .slice x2 y2 z2] 47))
      have k0 := hA5.c0; have k1 := hA5.c1
      have HB5 := Lib.hid (Below.alloc1 wc (.cells #[.slice x1 y1 z1, .slice x2 y2 z2] 47))
      have HOM := Lib.hid hom; have HAA := Lib.hid hA; have HBE := Lib.hid hbel
      have HV1 := Lib.hid (Own.rd o1); have HV2 := Lib.hid (Own.rd o2)
      clear hom hA hbel o1 o2 hdec hpk hA5
      by_cases hc : (p1, p2) = (t, b)
      · have HC := Lib.hid hc
        have HD : Hid (decide ((p1, p2) = (t, b)) = true) := decide_eq_true hc
        clear hc
        go_wp2_with fail
        refine (HSM.out _ _ _ _ _ (HX1.out.below HB5.out) (HX2.out.below HB5.out) (HV1.out.below HB5.out) (HV2.out.below HB5.out) true HD.out).mono ?_
        rintro e w6 ⟨rfl, hb6⟩
        have HB6 := Lib.hid (Below.step HB5.out hb6)
        clear hb6 k0 k1
        go_wp2
        go_roundw
        case rel =>
          refine ⟨k + 1, k, by omega, by go_num, rfl, Lib.hid (fun j hj e => ?_), HOM.out.below HB6.out, HAA.out.below HB6.out, Lib.hid (HX1.out.below HB6.out), Lib.hid (HX2.out.below HB6.out), Below.step HBE.out HB6.out⟩
          by_cases ej : j = k
          · exact ej.symm
          · exact absurd (e.trans (by rw [HPK.out]; exact HC.out.symm)) (HND.out j k ej (by omega) hlt)
        case measure => simp [intOf]; omega
      · have HC := Lib.hid hc
        have HD : Hid (decide ((p1, p2) = (t, b)) = false) := decide_eq_false hc
        clear hc
        go_wp2_with fail
        refine (HSM.out _ _ _ _ _ (HX1.out.below HB5.out) (HX2.out.below HB5.out) (HV1.out.below HB5.out) (HV2.out.below HB5.out) false HD.out).mono ?_
        rintro e w6 ⟨rfl, hb6⟩
        have HB6 := Lib.hid (Below.step HB5.out hb6)
        clear hb6 k0 k1
        go_wp2
        go_roundw
        case rel =>
          refine ⟨k + 1, z, by omega, by go_num, rfl, Lib.hid (fun j hj e => ?_), HOM.out.below HB6.out, HAA.out.below HB6.out, Lib.hid (HX1.out.below HB6.out), Lib.hid (HX2.out.below HB6.out), Below.step HBE.out HB6.out⟩
          by_cases ej : j = k
          · subst ej; rw [HPK.out] at e; exact absurd e HC.out
          · exact HNE.out j (by omega) e
        case measure => simp [intOf]; omega
    · obtain rfl : k = M.length := by omega
      have HF : Hid (res_RankMeander t b = (z : Int) ∧ ok_RankMeander t b = true) := by
        obtain ⟨j, hj, e⟩ := HEX.out
        have := HNE.out j hj e
        subst this
        exact HFO.out _ hj e
      go_wp2
      go_ret2
      rw [HF.out.1, HF.out.2]
      exact ⟨rfl, hbel⟩

set_option maxHeartbeats 4000000 in
set_option maxRecDepth 100000 in
theorem spec_RankMeander (t b : List Int) (w : World) (u1 u2 : Value) (h1 : Rd w u1 t) (h2 : Rd w u2 b) (m1 : t.length ≤ 1048576) (m2 : b.length ≤ 1048576) :
    Calls Try.prog 36 #[.agg #[u1, u2]] w (GivesN w (res_RankMeander t b) (ok_RankMeander t b)) := by
  by_cases hall : pairOk t b = true ∧ t.length / 2 ≤ 4 ∧ compsL t b = 1
  · exact specRank_run t b w u1 u2 h1 h2 m1 m2 hall.1 hall.2.1 hall.2.2
  · have ho : ok_RankMeander t b = false := by
      cases e : ok_RankMeander t b with
      | false => rfl
      | true =>
        exfalso
        unfold ok_RankMeander at e
        simp only [Bool.and_eq_true, decide_eq_true_eq] at e
        exact hall ⟨e.1, e.2.1, e.2.2⟩
    rw [rm_no ho, ho]
    have hA := Box2.new 47 w u1 u2
    have B1 : Below w.heap.size w (w.alloc (.cells #[u1, u2] 47)) := Below.alloc1 w _
    have k0 := hA.c0; have k1 := hA.c1
    have hrd := mePair_any t b _ u1 u2 (h1.below B1) (h2.below B1) m1 m2
    have HB := Lib.hid B1; have HA := Lib.hid hA; have H1 := Lib.hid (h1.below B1); have H2 := Lib.hid (h2.below B1)
    clear hA B1 ho
    cases hp : pairOk t b with
    | false =>
      rw [hp] at hrd
      have HR := Lib.hid hrd
      clear hrd hp hall h1 h2
      go_enter Try.func36, Try.ntmps36
      go_wp2_with fail
      refine HR.out.mono ?_
      rintro e w1 ⟨rfl, hb1⟩
      go_wp2
      go_ret2
      exact ⟨rfl, Below.step HB.out hb1⟩
    | true =>
      rw [hp] at hrd
      obtain ⟨g1, g2, g3⟩ := pairOk_facts hp
      have HT := Lib.hid (fun w h1 h2 => meCount_any t b g1 g2 g3 w u1 u2 h1 h2)
      change Hid (∀ w, Rd w u1 t → Rd w u2 b → Calls _ _ _ w fun e w' => e = .returned (.int .i64 ((compsL t b : Nat) : Int)) ∧ Below w.heap.size w w') at HT
      have HR := Lib.hid hrd
      have hcl := compsL_le t b
      have l1 := good_len' g1
      clear hrd
      by_cases hc1 : compsL t b = 1
      · have h5 : ¬ t.length / 2 ≤ 4 := fun h => hall ⟨hp, h, hc1⟩
        rw [hc1] at HT
        obtain ⟨a1, c1, rfl, hl1, hl2, _⟩ := h1
        unfold maxLen at hl2
        obtain ⟨N, hN⟩ : ∃ N, N = t.length := ⟨_, rfl⟩
        obtain ⟨m, hm⟩ : ∃ m, m = t.length / 2 := ⟨_, rfl⟩
        have hd : (N : Int) / 2 = (m : Int) := by omega
        have hN12 : N ≤ 12 := by omega
        have HI := Lib.hid (inB_no (n := (m : Int)) (lo := 0) (hi := 4) (by omega))
        rw [← hN] at hl1 k0 k1 HR HT H1 H2 HB HA ⊢
        clear hp hall g1 g2 g3 hcl l1 hc1 hN hm h5 h2
        go_enter Try.func36, Try.ntmps36
        go_wp2_with fail
        refine HR.out.mono ?_
        rintro e w1 ⟨rfl, hb1⟩
        have HA1 := Lib.hid (HA.out.below hb1); have H11 := Lib.hid (H1.out.below hb1); have H21 := Lib.hid (H2.out.below hb1); have HB1 := Lib.hid (Below.step HB.out hb1)
        clear hb1 k0 k1
        have k0 := HA1.out.c0; have k1 := HA1.out.c1
        go_wp2_with fail
        refine (HT.out _ H11.out H21.out).mono ?_
        rintro e w2 ⟨rfl, hb2⟩
        have HA2 := Lib.hid (HA1.out.below hb2); have HB2 := Lib.hid (Below.step HB1.out hb2)
        clear hb2 k0 k1
        have k0 := HA2.out.c0; have k1 := HA2.out.c1
        go_wp2_with (go_at_call 60; refine (meListed_any _ _).mono ?_; rintro e w' ⟨rfl, rfl⟩; rw [HI.out])
        go_ret2
        exact ⟨rfl, HB2.out⟩
      · obtain ⟨x, hx⟩ : ∃ x, x = compsL t b := ⟨_, rfl⟩
        rw [← hx] at hc1 HT
        have hne : ((x : Int) != 1) = true := by simp; omega
        clear hp hall g1 g2 g3 hcl l1 hx h1 h2
        go_enter Try.func36, Try.ntmps36
        go_wp2_with fail
        refine HR.out.mono ?_
        rintro e w1 ⟨rfl, hb1⟩
        have HA1 := Lib.hid (HA.out.below hb1); have H11 := Lib.hid (H1.out.below hb1); have H21 := Lib.hid (H2.out.below hb1); have HB1 := Lib.hid (Below.step HB.out hb1)
        clear hb1 k0 k1
        have k0 := HA1.out.c0; have k1 := HA1.out.c1
        go_wp2_with fail
        refine (HT.out _ H11.out H21.out).mono ?_
        rintro e w2 ⟨rfl, hb2⟩
        have HB2 := Lib.hid (Below.step HB1.out hb2)
        clear hb2 k0 k1
        go_wp2
        go_ret2
        exact ⟨rfl, HB2.out⟩

end Go.Proofs.Ytodbjkfikbkkbab
