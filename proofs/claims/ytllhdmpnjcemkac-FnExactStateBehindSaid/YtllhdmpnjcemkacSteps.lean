/- StepsOf: the program's function and the model's. -/
import Derived.Test.YtllhdmpnjcemkacComps
import Derived.Test.YtllhdmpnjcemkacPoints
namespace Go.Proofs.Ytllhdmpnjcemkac
open Go.RowKit
set_option linter.unusedSimpArgs false
set_option linter.unusedVariables false

def stepV (t b : List Int) (i : Nat) : Int := (if t.getD i 0 < (i : Int) then 2 else 0) + (if b.getD i 0 < (i : Int) then 1 else 0)
def stepsL (t b : List Int) (k : Nat) : List Int := (List.range k).map (stepV t b)
theorem stepsL_succ (t b : List Int) (k : Nat) : stepsL t b (k + 1) = stepsL t b k ++ [stepV t b k] := by simp [stepsL, List.range_succ]
theorem stepsL_length (t b : List Int) (k : Nat) : (stepsL t b k).length = k := by simp [stepsL]
theorem steps_fill (t b : List Int) (n k : Nat) (hk : k < n) : (stepsL t b k ++ List.replicate (n - k) 0).set k (stepV t b k) = stepsL t b (k + 1) ++ List.replicate (n - (k + 1)) 0 := by
  have e : List.replicate (n - k) (0 : Int) = 0 :: List.replicate (n - (k + 1)) 0 := by
    rw [show n - k = (n - (k + 1)) + 1 by omega, List.replicate_succ]
  rw [e, List.set_append_right _ _ (by rw [stepsL_length]; exact Nat.le_refl _), stepsL_length, Nat.sub_self, List.set_cons_zero, stepsL_succ, List.append_assoc]
  rfl
theorem stepV_in (t b : List Int) (i : Nat) : 0 ≤ stepV t b i ∧ stepV t b i ≤ 3 := by unfold stepV; split <;> split <;> omega
def ok_StepsOf (t b : List Int) : Bool := pairOk t b
def res_StepsOf (t b : List Int) : List Int := if pairOk t b then stepsL t b t.length else []
theorem len_StepsOf (t b : List Int) : (res_StepsOf t b).length ≤ 1000000 := by
  unfold res_StepsOf
  cases h : pairOk t b with
  | false => simp
  | true =>
    obtain ⟨g1, g2, _⟩ := pairOk_facts h
    have := good_len' g1
    simp [stepsL_length]; omega

set_option maxHeartbeats 4000000 in
theorem stSteps_any (t b : List Int) (hn12 : t.length ≤ 12) (hl : t.length = b.length) (w : World) (u1 u2 : Value) (h1 : Rd w u1 t) (h2 : Rd w u2 b) :
    Calls Try.prog 51 #[.agg #[u1, u2]] w (Made w (stepsL t b t.length)) := by
  obtain ⟨a1, c1, rfl, hlc1, hcm1, _, hrd1⟩ := h1
  obtain ⟨a2, c2, rfl, hlc2, hcm2, _, hrd2⟩ := h2
  rw [← hl] at hlc2 hrd2 ⊢
  obtain ⟨n, hn⟩ : ∃ n, n = t.length := ⟨_, rfl⟩
  have hn2 : n = b.length := by omega
  rw [← hn] at hlc1 hlc2 hrd1 hrd2 hn12 ⊢
  unfold maxLen at hcm1 hcm2
  have hA := Box2.new 30 w (.slice a1 n c1) (.slice a2 n c2)
  have k0 := hA.c0
  have HA := Lib.hid hA; have HB := Lib.hid (Below.alloc1 w (.cells #[.slice a1 n c1, .slice a2 n c2] 30))
  have HN := Lib.hid hn; have HN2 := Lib.hid hn2; have HC1 := Lib.hid hrd1; have HC2 := Lib.hid hrd2
  clear hA hn hn2 hl hrd1 hrd2
  go_enter Try.func51, Try.ntmps51
  go_wp2
  go_loopw [3, 10] (fun o i wr => ∃ k : Nat, k ≤ n ∧ i = .int .i64 (k : Int) ∧ Own (w.heap.size + 1) wr o (stepsL t b k) ∧ Below w.heap.size w wr ∧ Box2 30 wr w.heap.size (.slice a1 n c1) (.slice a2 n c2)) (fun _ i _ => n - (intOf i).toNat)
  case atStart => exact ⟨0, by omega, rfl, Own.nil _ _, HB.out, HA.out⟩
  case round =>
    obtain ⟨k, hk, rfl, hown, hbel, hbx⟩ := hrel
    clear HA HB k0
    generalize wr = wa at *
    by_cases hlt : k < n
    · rcases HC1.out with h0 | ⟨b1, o1, rfl, hcell1⟩
      · exfalso; rw [HN.out, h0] at hlt; simp at hlt
      rcases HC2.out with h0 | ⟨b2, o2, rfl, hcell2⟩
      · exfalso; rw [HN2.out, h0] at hlt; simp at hlt
      have c1' := (hbel.cell (p := ⟨b1, o1 + k, none⟩) (World.block_lt_of_cell? w _ (hcell1 k hlt))).trans (hcell1 k hlt)
      have c2' := (hbel.cell (p := ⟨b2, o2 + k, none⟩) (World.block_lt_of_cell? w _ (hcell2 k hlt))).trans (hcell2 k hlt)
      have hst := stepsL_succ t b k
      unfold stepV at hst
      have f1 := hbx.c1
      have HLL : Hid ((stepsL t b k).length ≤ 12) := by show _ ≤ 12; rw [stepsL_length]; omega
      have HO := Lib.hid hown; have HBE := Lib.hid hbel; have HX := Lib.hid hbx
      have hsz := hbx.lt
      clear hcell1 hcell2 hown hbel hbx
      generalize t.getD k 0 = x at *
      generalize b.getD k 0 = y at *
      generalize stepsL t b k = S at *
      have fin : ∀ (z : Int) v' w2, Own (w.heap.size + 1) w2 v' (S ++ [z]) → (wa.alloc (.cells #[.int .i64 z] 3)).grownBy w2 (match u3 with | v => v.ownBlock) → Below (w.heap.size + 1) (wa.alloc (.cells #[.int .i64 z] 3)) w2 → Below w.heap.size w w2 ∧ Box2 30 w2 w.heap.size (.slice (some ⟨b1, o1, none⟩) n c1) (.slice (some ⟨b2, o2, none⟩) n c2) := by
        intro z v' w2 ho hg hb
        have hb3 := (HBE.out.alloc HBE.out.size (.cells #[.int .i64 z] 3)).trans (hb.mono (Nat.le_succ _))
        exact ⟨hb3, Box2.grown (Box2.below HX.out (Below.alloc1 wa (.cells #[.int .i64 z] 3))) hg (fun e => by have := (HO.out.lt _ e.symm).1; omega)⟩
      have FIN := Lib.hid fin; clear fin
      by_cases hx : x < (k : Int) <;> by_cases hy : y < (k : Int)
      all_goals
        simp only [hx, hy, if_true, if_false] at hst
        have HST := Lib.hid hst
        clear hst
        try have hx' : (k : Int) ≤ x := by omega
        try have hy' : (k : Int) ≤ y := by omega
        go_wp2_with (at_builtin; refine wp_append _ rfl _ _ rfl (w.heap.size + 1) _ _ S [_] rfl rfl (Own.below HO.out (Below.alloc1 _ _)) (Own.rd (Own.lit1 _ _ _ (Nat.le_refl _))) (by have := HLL.out; simp only [List.length_cons, List.length_nil]; omega) (by simp; omega) ?_; intro v' w2 hown2 hgr hbel2; have hF := FIN.out _ _ _ hown2 hgr hbel2; have HO2 := Lib.hid hown2; have HF := Lib.hid hF; clear hown2 hgr hbel2 hF)
        go_roundw
        case rel => exact ⟨k + 1, by omega, by go_num, by rw [HST.out]; exact HO2.out, HF.out.1, HF.out.2⟩
        case measure => simp [intOf]; omega
    · obtain rfl : k = n := by omega
      obtain ⟨x5, n5, c5, rfl⟩ := hown.form'
      have HO := Lib.hid hown; have HBE := Lib.hid hbel
      clear hown hbel hbx
      go_wp2
      go_ret
      exact ⟨_, rfl, HO.out.mono (Nat.le_succ _), HBE.out⟩


theorem PairIn.topRange {w : World} {g : Nat} {t b : List Int} (h : PairIn w g t b) (hl : t.length ≤ 12) : w.rangeAt g 0 (sysL t) := by
  intro j v hv
  have hj : j < 13 := by
    have := (List.getElem?_eq_some_iff.1 hv).1
    rwa [sysL_length hl] at this
  rw [Nat.zero_add, cell_of_row w g _ _ _ _ h]
  have e1 : (sysC t)[j]? = some v := by simpa [sysC] using hv
  rw [sysC_lit hl] at e1
  have e2 : j = 0 ∨ j = 1 ∨ j = 2 ∨ j = 3 ∨ j = 4 ∨ j = 5 ∨ j = 6 ∨ j = 7 ∨ j = 8 ∨ j = 9 ∨ j = 10 ∨ j = 11 ∨ j = 12 := by omega
  rcases e2 with rfl | rfl | rfl | rfl | rfl | rfl | rfl | rfl | rfl | rfl | rfl | rfl | rfl <;> exact e1
theorem PairIn.botRange {w : World} {g : Nat} {t b : List Int} (h : PairIn w g t b) (hl : b.length ≤ 12) : w.rangeAt g 13 (sysL b) := by
  intro j v hv
  have hj : j < 13 := by
    have := (List.getElem?_eq_some_iff.1 hv).1
    rwa [sysL_length hl] at this
  rw [cell_of_row w g _ _ _ _ h]
  have e1 : (sysC b)[j]? = some v := by simpa [sysC] using hv
  rw [sysC_lit hl] at e1
  have e2 : j = 0 ∨ j = 1 ∨ j = 2 ∨ j = 3 ∨ j = 4 ∨ j = 5 ∨ j = 6 ∨ j = 7 ∨ j = 8 ∨ j = 9 ∨ j = 10 ∨ j = 11 ∨ j = 12 := by omega
  rcases e2 with rfl | rfl | rfl | rfl | rfl | rfl | rfl | rfl | rfl | rfl | rfl | rfl | rfl <;> exact e1
/-- one of both systems read out of a pair's variable -/
theorem wp_loadTop {ops : Array Oper} {rest : List Oper} {o : Oper} {a : Act} {w : World} {Q : Exit → Act → World → Prop} (hgd : o.guard = none) (x : Operand) (ho : o.op = .load 67 x)
    (g : Nat) (t b : List Int) (hl : t.length ≤ 12) (hx : a.eval x = .pointer (some ⟨g, 0, none⟩)) (hg : PairIn w g t b)
    (h : wpList Try.prog ops Q rest (a.put o.dst (.agg (sysC t))) w) : wpList Try.prog ops Q (o :: rest) a w :=
  wpList_load_mid hgd _ x ho g 0 hx (sysL t) _ (hg.topRange hl) Try.underlying67 rfl (by rw [sys_info, sysL_length hl]) h
theorem wp_loadBot {ops : Array Oper} {rest : List Oper} {o : Oper} {a : Act} {w : World} {Q : Exit → Act → World → Prop} (hgd : o.guard = none) (x : Operand) (ho : o.op = .load 67 x)
    (g : Nat) (t b : List Int) (hl : b.length ≤ 12) (hx : a.eval x = .pointer (some ⟨g, 13, none⟩)) (hg : PairIn w g t b)
    (h : wpList Try.prog ops Q rest (a.put o.dst (.agg (sysC b))) w) : wpList Try.prog ops Q (o :: rest) a w :=
  wpList_load_mid hgd _ x ho g 13 hx (sysL b) _ (hg.botRange hl) Try.underlying67 rfl (by rw [sys_info, sysL_length hl]) h

theorem begins_lt {l : List Int} (h : goodB l = true) (i : Nat) (hi : i < l.length) : (if l.getD i 0 < (i : Int) then (1 : Int) else 0) = if beginsB l (i : Int) then 0 else 1 := by
  have := ((good_facts h).2.2.1 i hi).2.2.1
  unfold beginsB
  rw [Int.toNat_natCast]
  by_cases h1 : l.getD i 0 < (i : Int)
  · rw [if_pos h1, if_neg]; rw [decide_eq_true_eq]; omega
  · rw [if_neg h1, if_pos]; rw [decide_eq_true_eq]; omega
theorem stepV_begins {t b : List Int} (gt : goodB t = true) (gb : goodB b = true) (hl : t.length = b.length) (i : Nat) (hi : i < t.length) : stepV t b i = (if beginsB t (i : Int) then 0 else 2) + (if beginsB b (i : Int) then 0 else 1) := by
  have h1 := begins_lt gt i hi
  have h2 := begins_lt gb i (by omega)
  unfold stepV
  rw [h2]
  congr 1
  by_cases h : t.getD i 0 < (i : Int)
  · rw [if_pos h] at h1 ⊢
    cases hb : beginsB t (i : Int) <;> simp [hb] at h1 ⊢
  · rw [if_neg h] at h1 ⊢
    cases hb : beginsB t (i : Int) <;> simp [hb] at h1 ⊢

set_option maxHeartbeats 1000000 in
theorem stepAt_any (t b : List Int) (gt : goodB t = true) (gb : goodB b = true) (hl : t.length = b.length) (i : Nat) (hi : i < t.length) (w : World) :
    Calls Try.prog 57 #[.agg (pairC t b), .int .i64 (i : Int)] w fun e w' => e = .returned (.int .i64 (stepV t b i)) ∧ Below w.heap.size w w' := by
  have l1 := good_len' gt; have l2 := good_len' gb
  have hb1 := fun w => begins_any t (i : Int) w l1 (by omega) (by omega)
  have hb2 := fun w => begins_any b (i : Int) w l2 (by omega) (by omega)
  rw [stepV_begins gt gb hl i hi]
  have HL1 := Lib.hid l1; have HL2 := Lib.hid l2
  have HP := Lib.hid (PairIn.new w t b)
  clear gt gb hl hi l1 l2
  generalize beginsB t (i : Int) = X at *
  generalize beginsB b (i : Int) = Y at *
  have HB1 := Lib.hid hb1; have HB2 := Lib.hid hb2
  clear hb1 hb2
  cases X <;> cases Y
  all_goals
    go_enter Try.func57, Try.ntmps57
    go_wp2_with (first
      | ((with_reducible refine wp_loadTop rfl (.tmp 6) rfl w.heap.size t b HL1.out rfl HP.out ?_))
      | ((with_reducible refine wp_loadBot rfl (.tmp 13) rfl w.heap.size t b HL2.out rfl HP1.out ?_))
      | (go_at_call_of 81 (Value.agg (sysC t)); ((with_reducible refine (HB1.out _).mono ?_); rintro e w1 ⟨rfl, hb1⟩; have HP1 := Lib.hid (HP.out.below hb1); have HX1 := Lib.hid (Below.step (Below.alloc1 w (.cells (pairC t b) 69)) hb1); clear hb1))
      | (go_at_call_of 81 (Value.agg (sysC b)); ((with_reducible refine (HB2.out _).mono ?_); rintro e w2 ⟨rfl, hb2⟩; have HX2 := Lib.hid (Below.step HX1.out hb2); clear hb2)))
    go_ret
    exact ⟨rfl, HX2.out⟩


end Go.Proofs.Ytllhdmpnjcemkac
