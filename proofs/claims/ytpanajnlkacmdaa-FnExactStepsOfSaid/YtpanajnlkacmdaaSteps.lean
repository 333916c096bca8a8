/- StepsOf: the program's function and the model's. -/
import Derived.Test.YtpanajnlkacmdaaComps
import Derived.Test.YtpanajnlkacmdaaPoints
namespace Go.Proofs.Ytpanajnlkacmdaa
open Go.RowKit
set_option linter.unusedSimpArgs false
set_option linter.unusedVariables false

def stepV (t b : List Int) (i : Nat) : Int := (if t.getD i 0 < (i : Int) then 2 else 0) + (if b.getD i 0 < (i : Int) then 1 else 0)
def stepsL (t b : List Int) (k : Nat) : List Int := (List.range k).map (stepV t b)
theorem stepsL_succ (t b : List Int) (k : Nat) : stepsL t b (k + 1) = stepsL t b k ++ [stepV t b k] := by simp [stepsL, List.range_succ]
theorem stepsL_length (t b : List Int) (k : Nat) : (stepsL t b k).length = k := by simp [stepsL]
theorem steps_fill (t b : List Int) (n k : Nat) (hk : k < n) : (stepsL t b k ++ List.replicate (n - k) 0).set k (stepV t b k) = stepsL t b (k + 1) ++ List.replicate (n - (k + 1)) 0 := by
  have e : List.replicate (n - k) (0 : Int) = 0 :: List.replicate (n - (k + 1)) 0 := by
    rw [show n - k = (n - (k + 1)) + 1 by omega, List.replicate_succ]
  rw [e, List.set_append_right _ _ (by rw [stepsL_length]; exact Nat.le_refl _), stepsL_length, Nat.sub_self, List.set_cons_zero, stepsL_succ, List.append_assoc]
  rfl
theorem stepV_in (t b : List Int) (i : Nat) : 0 ≤ stepV t b i ∧ stepV t b i ≤ 3 := by unfold stepV; split <;> split <;> omega
def ok_StepsOf (t b : List Int) : Bool := pairOk t b
def res_StepsOf (t b : List Int) : List Int := if pairOk t b then stepsL t b t.length else []
theorem len_StepsOf (t b : List Int) : (res_StepsOf t b).length ≤ 1000000 := by
  unfold res_StepsOf
  cases h : pairOk t b with
  | false => simp
  | true =>
    obtain ⟨g1, g2, _⟩ := pairOk_facts h
    have := good_len' g1
    simp [stepsL_length]; omega

set_option maxHeartbeats 4000000 in
theorem stSteps_any (t b : List Int) (hn12 : t.length ≤ 12) (hl : t.length = b.length) (w : World) (u1 u2 : Value) (h1 : Rd w u1 t) (h2 : Rd w u2 b) :
    Calls Try.prog 64 #[.agg #[u1, u2]] w (Made w (stepsL t b t.length)) := by
  obtain ⟨a1, c1, rfl, hlc1, hcm1, _, hrd1⟩ := h1
  obtain ⟨a2, c2, rfl, hlc2, hcm2, _, hrd2⟩ := h2
  rw [← hl] at hlc2 hrd2 ⊢
  obtain ⟨n, hn⟩ : ∃ n, n = t.length := ⟨_, rfl⟩
  have hn2 : n = b.length := by omega
  rw [← hn] at hlc1 hlc2 hrd1 hrd2 hn12 ⊢
  unfold maxLen at hcm1 hcm2
  have hA := Box2.new 28 w (.slice a1 n c1) (.slice a2 n c2)
  have k0 := hA.c0
  have HA := Lib.hid hA; have HB := Lib.hid (Below.alloc1 w (.cells #[.slice a1 n c1, .slice a2 n c2] 28))
  have HN := Lib.hid hn; have HN2 := Lib.hid hn2; have HC1 := Lib.hid hrd1; have HC2 := Lib.hid hrd2
  clear hA hn hn2 hl hrd1 hrd2
  go_enter Try.func64, Try.ntmps64
  go_wp2
  go_loopw [3, 10] (fun o i wr => ∃ k : Nat, k ≤ n ∧ i = .int .i64 (k : Int) ∧ Own (w.heap.size + 1) wr o (stepsL t b k) ∧ Below w.heap.size w wr ∧ Box2 28 wr w.heap.size (.slice a1 n c1) (.slice a2 n c2)) (fun _ i _ => n - (intOf i).toNat)
  case atStart => exact ⟨0, by omega, rfl, Own.nil _ _, HB.out, HA.out⟩
  case round =>
    obtain ⟨k, hk, rfl, hown, hbel, hbx⟩ := hrel
    clear HA HB k0
    generalize wr = wa at *
    by_cases hlt : k < n
    · rcases HC1.out with h0 | ⟨b1, o1, rfl, hcell1⟩
      · exfalso; rw [HN.out, h0] at hlt; simp at hlt
      rcases HC2.out with h0 | ⟨b2, o2, rfl, hcell2⟩
      · exfalso; rw [HN2.out, h0] at hlt; simp at hlt
      have c1' := (hbel.cell (p := ⟨b1, o1 + k, none⟩) (World.block_lt_of_cell? w _ (hcell1 k hlt))).trans (hcell1 k hlt)
      have c2' := (hbel.cell (p := ⟨b2, o2 + k, none⟩) (World.block_lt_of_cell? w _ (hcell2 k hlt))).trans (hcell2 k hlt)
      have hst := stepsL_succ t b k
      unfold stepV at hst
      have f1 := hbx.c1
      have HLL : Hid ((stepsL t b k).length ≤ 12) := by show _ ≤ 12; rw [stepsL_length]; omega
      have HO := Lib.hid hown; have HBE := Lib.hid hbel; have HX := Lib.hid hbx
      have hsz := hbx.lt
      clear hcell1 hcell2 hown hbel hbx
      generalize t.getD k 0 = x at *
      generalize b.getD k 0 = y at *
      generalize stepsL t b k = S at *
      have fin : ∀ (z : Int) v' w2, Own (w.heap.size + 1) w2 v' (S ++ [z]) → (wa.alloc (.cells #[.int .i64 z] 3)).grownBy w2 (match u3 with | v => v.ownBlock) → Below (w.heap.size + 1) (wa.alloc (.cells #[.int .i64 z] 3)) w2 → Below w.heap.size w w2 ∧ Box2 28 w2 w.heap.size (.slice (some ⟨b1, o1, none⟩) n c1) (.slice (some ⟨b2, o2, none⟩) n c2) := by
        intro z v' w2 ho hg hb
        have hb3 := (HBE.out.alloc HBE.out.size (.cells #[.int .i64 z] 3)).trans (hb.mono (Nat.le_succ _))
        exact ⟨hb3, Box2.grown (Box2.below HX.out (Below.alloc1 wa (.cells #[.int .i64 z] 3))) hg (fun e => by have := (HO.out.lt _ e.symm).1; omega)⟩
      have FIN := Lib.hid fin; clear fin
      by_cases hx : x < (k : Int) <;> by_cases hy : y < (k : Int)
      all_goals
        simp only [hx, hy, if_true, if_false] at hst
        have HST := Lib.hid hst
        clear hst
        try have hx' : (k : Int) ≤ x := by omega
        try have hy' : (k : Int) ≤ y := by omega
        go_wp2_with (at_builtin; refine wp_append _ rfl _ _ rfl (w.heap.size + 1) _ _ S [_] rfl rfl (Own.below HO.out (Below.alloc1 _ _)) (Own.rd (Own.lit1 _ _ _ (Nat.le_refl _))) (by have := HLL.out; simp only [List.length_cons, List.length_nil]; omega) (by simp; omega) ?_; intro v' w2 hown2 hgr hbel2; have hF := FIN.out _ _ _ hown2 hgr hbel2; have HO2 := Lib.hid hown2; have HF := Lib.hid hF; clear hown2 hgr hbel2 hF)
        go_roundw
        case rel => exact ⟨k + 1, by omega, by go_num, by rw [HST.out]; exact HO2.out, HF.out.1, HF.out.2⟩
        case measure => simp [intOf]; omega
    · obtain rfl : k = n := by omega
      obtain ⟨x5, n5, c5, rfl⟩ := hown.form'
      have HO := Lib.hid hown; have HBE := Lib.hid hbel
      clear hown hbel hbx
      go_wp2
      go_ret
      exact ⟨_, rfl, HO.out.mono (Nat.le_succ _), HBE.out⟩

theorem spec_StepsOf (t b : List Int) (w : World) (u1 u2 : Value) (h1 : Rd w u1 t) (h2 : Rd w u2 b) (m1 : t.length ≤ 1048576) (m2 : b.length ≤ 1048576) :
    Calls Try.prog 40 #[.agg #[u1, u2]] w (Gives w (res_StepsOf t b) (ok_StepsOf t b)) := by
  unfold res_StepsOf ok_StepsOf
  have hA := Box2.new 28 w u1 u2
  have B1 : Below w.heap.size w (w.alloc (.cells #[u1, u2] 28)) := Below.alloc1 w _
  have k0 := hA.c0; have k1 := hA.c1
  have hrd := mePair_any t b _ u1 u2 (h1.below B1) (h2.below B1) m1 m2
  have HB := Lib.hid B1; have HA := Lib.hid hA; have H1 := Lib.hid (h1.below B1); have H2 := Lib.hid (h2.below B1)
  clear hA B1 h1 h2
  cases e1 : pairOk t b with
  | false =>
    rw [e1] at hrd
    have HR := Lib.hid hrd; clear hrd e1
    go_enter Try.func40, Try.ntmps40
    go_wp2_with fail
    refine HR.out.mono ?_
    rintro e w1 ⟨rfl, hb1⟩
    go_wp2
    go_ret2
    exact ⟨_, rfl, Own.nil _ _, Below.step HB.out hb1⟩
  | true =>
    rw [e1] at hrd
    obtain ⟨g1, g2, g3⟩ := pairOk_facts e1
    have HT := Lib.hid (fun w h1 h2 => stSteps_any t b (good_len' g1) g3 w u1 u2 h1 h2)
    have HR := Lib.hid hrd; clear hrd e1 g1 g2 g3
    simp only [if_true]
    generalize stepsL t b t.length = N at *
    go_enter Try.func40, Try.ntmps40
    go_wp2_with fail
    refine HR.out.mono ?_
    rintro e w1 ⟨rfl, hb1⟩
    have m0 := (HA.out.below hb1).c0; have m1 := (HA.out.below hb1).c1
    have H11 := Lib.hid (H1.out.below hb1); have H21 := Lib.hid (H2.out.below hb1); have HB1 := Lib.hid (Below.step HB.out hb1)
    clear hb1 k0 k1
    go_wp2_with fail
    refine (HT.out _ H11.out H21.out).mono ?_
    rintro e w2 ⟨v, rfl, ho2, hb2⟩
    obtain ⟨x1, y1, z1, rfl⟩ := ho2.form'
    have HO2 := Lib.hid ho2; clear ho2
    go_wp2
    go_ret2
    exact ⟨_, rfl, HO2.out.mono HB1.out.size, Below.step HB1.out hb2⟩

theorem PairIn.topRange {w : World} {g : Nat} {t b : List Int} (h : PairIn w g t b) (hl : t.length ≤ 12) : w.rangeAt g 0 (sysL t) := by
  intro j v hv
  have hj : j < 13 := by
    have := (List.getElem?_eq_some_iff.1 hv).1
    rwa [sysL_length hl] at this
  rw [Nat.zero_add, cell_of_row w g _ _ _ _ h]
  have e1 : (sysC t)[j]? = some v := by simpa [sysC] using hv
  rw [sysC_lit hl] at e1
  have e2 : j = 0 ∨ j = 1 ∨ j = 2 ∨ j = 3 ∨ j = 4 ∨ j = 5 ∨ j = 6 ∨ j = 7 ∨ j = 8 ∨ j = 9 ∨ j = 10 ∨ j = 11 ∨ j = 12 := by omega
  rcases e2 with rfl | rfl | rfl | rfl | rfl | rfl | rfl | rfl | rfl | rfl | rfl | rfl | rfl <;> exact e1
theorem PairIn.botRange {w : World} {g : Nat} {t b : List Int} (h : PairIn w g t b) (hl : b.length ≤ 12) : w.rangeAt g 13 (sysL b) := by
  intro j v hv
  have hj : j < 13 := by
    have := (List.getElem?_eq_some_iff.1 hv).1
    rwa [sysL_length hl] at this
  rw [cell_of_row w g _ _ _ _ h]
  have e1 : (sysC b)[j]? = some v := by simpa [sysC] using hv
  rw [sysC_lit hl] at e1
  have e2 : j = 0 ∨ j = 1 ∨ j = 2 ∨ j = 3 ∨ j = 4 ∨ j = 5 ∨ j = 6 ∨ j = 7 ∨ j = 8 ∨ j = 9 ∨ j = 10 ∨ j = 11 ∨ j = 12 := by omega
  rcases e2 with rfl | rfl | rfl | rfl | rfl | rfl | rfl | rfl | rfl | rfl | rfl | rfl | rfl <;> exact e1
/-- one of both systems read out of a pair's variable -/
theorem wp_loadTop {ops : Array Oper} {rest : List Oper} {o : Oper} {a : Act} {w : World} {Q : Exit → Act → World → Prop} (hgd : o.guard = none) (x : Operand) (ho : o.op = .load 58 x)
    (g : Nat) (t b : List Int) (hl : t.length ≤ 12) (hx : a.eval x = .pointer (some ⟨g, 0, none⟩)) (hg : PairIn w g t b)
    (h : wpList Try.prog ops Q rest (a.put o.dst (.agg (sysC t))) w) : wpList Try.prog ops Q (o :: rest) a w :=
  wpList_load_mid hgd _ x ho g 0 hx (sysL t) _ (hg.topRange hl) Try.underlying58 rfl (by rw [sys_info, sysL_length hl]) h
theorem wp_loadBot {ops : Array Oper} {rest : List Oper} {o : Oper} {a : Act} {w : World} {Q : Exit → Act → World → Prop} (hgd : o.guard = none) (x : Operand) (ho : o.op = .load 58 x)
    (g : Nat) (t b : List Int) (hl : b.length ≤ 12) (hx : a.eval x = .pointer (some ⟨g, 13, none⟩)) (hg : PairIn w g t b)
    (h : wpList Try.prog ops Q rest (a.put o.dst (.agg (sysC b))) w) : wpList Try.prog ops Q (o :: rest) a w :=
  wpList_load_mid hgd _ x ho g 13 hx (sysL b) _ (hg.botRange hl) Try.underlying58 rfl (by rw [sys_info, sysL_length hl]) h

theorem begins_lt {l : List Int} (h : goodB l = true) (i : Nat) (hi : i < l.length) : (if l.getD i 0 < (i : Int) then (1 : Int) else 0) = if beginsB l (i : Int) then 0 else 1 := by
  have := ((good_facts h).2.2.1 i hi).2.2.1
  unfold beginsB
  rw [Int.toNat_natCast]
  by_cases h1 : l.getD i 0 < (i : Int)
  · rw [if_pos h1, if_neg]; rw [decide_eq_true_eq]; omega
  · rw [if_neg h1, if_pos]; rw [decide_eq_true_eq]; omega
theorem stepV_begins {t b : List Int} (gt : goodB t = true) (gb : goodB b = true) (hl : t.length = b.length) (i : Nat) (hi : i < t.length) : stepV t b i = (if beginsB t (i : Int) then 0 else 2) + (if beginsB b (i : Int) then 0 else 1) := by
  have h1 := begins_lt gt i hi
  have h2 := begins_lt gb i (by omega)
  unfold stepV
  rw [h2]
  congr 1
  by_cases h : t.getD i 0 < (i : Int)
  · rw [if_pos h] at h1 ⊢
    cases hb : beginsB t (i : Int) <;> simp [hb] at h1 ⊢
  · rw [if_neg h] at h1 ⊢
    cases hb : beginsB t (i : Int) <;> simp [hb] at h1 ⊢

set_option maxHeartbeats 1000000 in
theorem stepAt_any (t b : List Int) (gt : goodB t = true) (gb : goodB b = true) (hl : t.length = b.length) (i : Nat) (hi : i < t.length) (w : World) :
    Calls Try.prog 65 #[.agg (pairC t b), .int .i64 (i : Int)] w fun e w' => e = .returned (.int .i64 (stepV t b i)) ∧ Below w.heap.size w w' := by
  have l1 := good_len' gt; have l2 := good_len' gb
  have hb1 := fun w => begins_any t (i : Int) w l1 (by omega) (by omega)
  have hb2 := fun w => begins_any b (i : Int) w l2 (by omega) (by omega)
  rw [stepV_begins gt gb hl i hi]
  have HL1 := Lib.hid l1; have HL2 := Lib.hid l2
  have HP := Lib.hid (PairIn.new w t b)
  clear gt gb hl hi l1 l2
  generalize beginsB t (i : Int) = X at *
  generalize beginsB b (i : Int) = Y at *
  have HB1 := Lib.hid hb1; have HB2 := Lib.hid hb2
  clear hb1 hb2
  cases X <;> cases Y
  all_goals
    go_enter Try.func65, Try.ntmps65
    go_wp2_with (first
      | ((with_reducible refine wp_loadTop rfl (.tmp 6) rfl w.heap.size t b HL1.out rfl HP.out ?_))
      | ((with_reducible refine wp_loadBot rfl (.tmp 13) rfl w.heap.size t b HL2.out rfl HP1.out ?_))
      | (go_at_call_of 78 (Value.agg (sysC t)); ((with_reducible refine (HB1.out _).mono ?_); rintro e w1 ⟨rfl, hb1⟩; have HP1 := Lib.hid (HP.out.below hb1); have HX1 := Lib.hid (Below.step (Below.alloc1 w (.cells (pairC t b) 60)) hb1); clear hb1))
      | (go_at_call_of 78 (Value.agg (sysC b)); ((with_reducible refine (HB2.out _).mono ?_); rintro e w2 ⟨rfl, hb2⟩; have HX2 := Lib.hid (Below.step HX1.out hb2); clear hb2)))
    go_ret
    exact ⟨rfl, HX2.out⟩

set_option maxHeartbeats 1000000 in
theorem impl_StepsOf (t b : List Int) (w : World) (u1 u2 : Value) (h1 : Rd w u1 t) (h2 : Rd w u2 b) (m1 : t.length ≤ 1048576) (m2 : b.length ≤ 1048576) :
    Calls Try.prog 41 #[.agg #[u1, u2]] w (Gives w (res_StepsOf t b) (ok_StepsOf t b)) := by
  unfold res_StepsOf ok_StepsOf
  have hA := Box2.new 28 w u1 u2
  have B1 : Below w.heap.size w (w.alloc (.cells #[u1, u2] 28)) := Below.alloc1 w _
  have k0 := hA.c0; have k1 := hA.c1
  have hrd := readPair_any t b _ u1 u2 (h1.below B1) (h2.below B1)
  have HB := Lib.hid B1
  clear hA B1 h1 h2
  cases hR : pairOk t b with
  | false =>
    simp only [hR, Bool.false_eq_true, if_false] at hrd ⊢
    have HR := Lib.hid hrd; clear hrd hR
    go_enter Try.func41, Try.ntmps41
    go_wp2_with fail
    refine HR.out.mono ?_
    rintro e w1 ⟨rfl, hb1⟩
    have HB1 := Lib.hid (Below.step HB.out hb1); clear hb1 k0 k1
    go_wp2_with ((with_reducible refine wp_storePairN rfl (.tmp 4) (.tmp 11) rfl [] [] rfl rfl ?_); intro w2 hs2 hb2; have HB2 := Lib.hid (Below.step HB1.out hb2); clear hs2 hb2)
    go_ret2
    exact ⟨_, rfl, Own.nil _ _, HB2.out⟩
  | true =>
    simp only [hR, if_true] at hrd ⊢
    obtain ⟨q1, q2, q3⟩ := pairOk_facts hR
    have HSZ := Lib.hid (fun w => pairSize_any t b w)
    have HAT := Lib.hid (fun i (hi : i < t.length) w => stepAt_any t b q1 q2 q3 i hi w)
    have HR := Lib.hid hrd
    have hn12 := good_len' q1
    clear hrd hR q1 q2 q3
    obtain ⟨n, hn⟩ : ∃ n, n = t.length := ⟨_, rfl⟩
    rw [← hn] at hn12 HAT HSZ ⊢
    clear hn
    go_enter Try.func41, Try.ntmps41
    go_wp2_with fail
    refine HR.out.mono ?_
    rintro e w1 ⟨rfl, hb1⟩
    have HB1 := Lib.hid (Below.step HB.out hb1); clear hb1 k0 k1
    go_wp2_with (first
      | ((with_reducible refine wp_storePairN rfl (.tmp 4) (.tmp 11) rfl t b rfl rfl ?_); intro w2 hs2 hb2; have HS2 := Lib.hid hs2; have HB2 := Lib.hid (Below.step HB1.out hb2); clear hs2 hb2)
      | (with_reducible refine wp_loadPair rfl (.tmp 4) rfl w1.heap.size t b rfl HS2.out ?_)
      | (go_at_call 50; ((with_reducible refine (HSZ.out _).mono ?_); rintro e w3 ⟨rfl, hb3⟩; have HS3 := Lib.hid (HS2.out.below hb3); have HB3 := Lib.hid (Below.step HB2.out hb3); clear hb3))
      | (at_make; refine wp_make _ rfl _ _ rfl n _ _ rfl rfl rfl rfl (by omega) ?_; intro w4 hown4 hbel4 hsz4; have HO4 := Lib.hid hown4; have HS4 := Lib.hid (HS3.out.below hbel4); have HB4 := Lib.hid (Below.step HB3.out hbel4); clear hown4 hbel4 hsz4))
    have hs13 : w1.heap.size < w3.heap.size := HS3.out.lt
    have hw3 := HB3.out.size
    go_loopw [20] (fun i wr => ∃ k : Nat, k ≤ n ∧ i = .int .i64 (k : Int) ∧ Own w3.heap.size wr (.slice (some ⟨w3.heap.size, 0, none⟩) n n) (stepsL t b k ++ List.replicate (n - k) 0) ∧ PairIn wr w1.heap.size t b ∧ Below w.heap.size w wr) (fun i _ => n - (intOf i).toNat)
    case atStart => exact ⟨0, by omega, rfl, by simpa [stepsL] using HO4.out, HS4.out, HB4.out⟩
    case round =>
      obtain ⟨k, hk, rfl, hown, hp, hbel⟩ := hrel
      clear HO4 HS4 HB4
      generalize wr = wa at *
      by_cases hlt : k < n
      · have HK := Lib.hid (fun w => HAT.out k hlt w)
        have hfill := steps_fill t b n k hlt
        have hlen : (stepsL t b k ++ List.replicate (n - k) (0 : Int)).length = n := by simp [stepsL_length]; omega
        have HO := Lib.hid hown; have HP := Lib.hid hp; have HBE := Lib.hid hbel; have HF := Lib.hid hfill; have HLN := Lib.hid hlen
        clear hown hp hbel hfill hlen
        generalize stepV t b k = x at *
        go_wp2_with (first
          | (with_reducible refine wp_loadPair rfl (.tmp 4) rfl w1.heap.size t b rfl HP.out ?_)
          | (go_at_call 65; ((with_reducible refine (HK.out _).mono ?_); rintro e w5 ⟨rfl, hb5⟩; have ho5 := HO.out.below hb5; have hdst := ho5.cellAt k (by rw [HLN.out]; exact hlt); have hfr := ho5.frozenAt k; have hnew := ho5.stored k x; rw [HF.out] at hnew; have HN5 := Lib.hid hnew; have HP5 := Lib.hid (PairIn.setOther (i := k) (b' := w3.heap.size) (v := .int .i64 x) (HP.out.below hb5) (by omega)); have HB5 := Lib.hid ((Below.step HBE.out hb5).setCell (p := ⟨w3.heap.size, k, none⟩) hw3 (.int .i64 x)); clear hb5 ho5 hnew)))
        go_roundw
        case rel => exact ⟨k + 1, by omega, by go_num, HN5.out, HP5.out, HB5.out⟩
        case measure => simp [intOf]; omega
      · obtain rfl : k = n := by omega
        have HO : Hid (Own w3.heap.size wa (.slice (some ⟨w3.heap.size, 0, none⟩) k k) (stepsL t b k)) := by show Own _ _ _ _; simpa using hown
        have HBE := Lib.hid hbel
        clear hown hp hbel
        go_wp2
        go_ret2
        exact ⟨_, rfl, HO.out.mono hw3, HBE.out⟩

end Go.Proofs.Ytpanajnlkacmdaa
