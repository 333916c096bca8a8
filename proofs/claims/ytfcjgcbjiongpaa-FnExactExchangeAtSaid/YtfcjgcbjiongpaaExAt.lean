/- ExchangeAt and CountExchanges on both sides. -/
import Derived.Test.YtfcjgcbjiongpaaExPairs
import Derived.Test.YtfcjgcbjiongpaaShift
import Derived.Test.YtfcjgcbjiongpaaExCh
namespace Go.Proofs.Ytfcjgcbjiongpaa
open Go.RowKit
set_option linter.unusedSimpArgs false
set_option linter.unusedVariables false

def okE (l : List Int) (i j : Int) : Bool := decide (0 ≤ i ∧ i < j ∧ j < (l.length : Int)) && shareB l i j
def ok_ExchangeAt (l : List Int) (i j : Int) : Bool := goodB l && okE l i j
def res_ExchangeAt (l : List Int) (i j : Int) : List Int := if goodB l && okE l i j then exL l i j else []
theorem len_ExchangeAt (l : List Int) (i j : Int) : (res_ExchangeAt l i j).length ≤ 1000000 := by
  unfold res_ExchangeAt
  split
  · next h =>
    rw [Bool.and_eq_true] at h
    rw [exL_length]; have := good_len' h.1; omega
  · simp
theorem okE_mem {l : List Int} {i j : Int} : okE l i j = true ↔ [i, j] ∈ pairsL l := by
  unfold okE
  rw [pairs_mem, Bool.and_eq_true, decide_eq_true_eq]
  constructor
  · rintro ⟨⟨h0, h1, h2⟩, h3⟩
    obtain ⟨i, rfl⟩ := Int.eq_ofNat_of_zero_le h0
    obtain ⟨j, rfl⟩ := Int.eq_ofNat_of_zero_le (show 0 ≤ j by omega)
    exact ⟨i, j, by omega, by omega, h3, rfl⟩
  · rintro ⟨i', j', h1, h2, h3, h4⟩
    simp only [List.cons.injEq, and_true] at h4
    obtain ⟨rfl, rfl⟩ := h4
    exact ⟨⟨by omega, by omega, by omega⟩, h3⟩
theorem exL_nat (l : List Int) (i j a b : Nat) (ha : l.getD i 0 = (a : Int)) (hb : l.getD j 0 = (b : Int)) :
    exL l (i : Int) (j : Int) = if a < j then (((l.set i (b : Int)).set b (i : Int)).set a (j : Int)).set j (a : Int) else (((l.set i (j : Int)).set j (i : Int)).set b (a : Int)).set a (b : Int) := by
  unfold exL setJ
  simp only [Int.toNat_natCast, ha, hb]
  by_cases h : a < j
  · rw [if_pos h, if_pos (by omega)]
  · rw [if_neg h, if_neg (by omega)]

set_option maxHeartbeats 4000000 in
set_option maxRecDepth 100000 in
theorem exAt_any (l : List Int) (i j : Nat) (w : World) (u : Value) (h : Rd w u l) (hg : goodB l = true) (hij : i < j) (hj : j < l.length) :
    Calls Try.prog 39 #[u, .int .i64 (i : Int), .int .i64 (j : Int)] w (Made w (exL l (i : Int) (j : Int))) := by
  have hl := good_len' hg
  have f1 := (good_facts hg).2.2.1 i (by omega)
  have f2 := (good_facts hg).2.2.1 j hj
  obtain ⟨a, ha⟩ := Int.eq_ofNat_of_zero_le f1.1
  obtain ⟨b, hb⟩ := Int.eq_ofNat_of_zero_le f2.1
  have hal : a < l.length := by omega
  have hbl : b < l.length := by omega
  rw [exL_nat l i j a b ha hb]
  obtain ⟨RES, hRES⟩ : ∃ RES, (if a < j then (((l.set i (b : Int)).set b (i : Int)).set a (j : Int)).set j (a : Int) else (((l.set i (j : Int)).set j (i : Int)).set b (a : Int)).set a (b : Int)) = RES := ⟨_, rfl⟩
  rw [hRES]
  have HRES := Lib.hid hRES
  clear hRES
  have HO := Lib.hid (l1Own_any u l w h (by omega))
  obtain ⟨ga, off, c, rfl, hc1, hc2, hcell⟩ := h.at (by omega)
  have hsrc : ∀ wq, Below w.heap.size w wq → wq.cell? ⟨ga, off + i, none⟩ = some (.int .i64 (a : Int)) ∧ wq.cell? ⟨ga, off + j, none⟩ = some (.int .i64 (b : Int)) := by
    intro wq hq
    have c1 := hcell i (by omega)
    have c2 := hcell j hj
    rw [ha] at c1
    rw [hb] at c2
    exact ⟨(hq.cell (p := ⟨ga, off + i, none⟩) (World.block_lt_of_cell? w _ c1)).trans c1, (hq.cell (p := ⟨ga, off + j, none⟩) (World.block_lt_of_cell? w _ c2)).trans c2⟩
  obtain ⟨n, hn⟩ : ∃ n, n = l.length := ⟨_, rfl⟩
  rw [← hn] at hl hj hal hbl hc1 HO ⊢
  have HN := Lib.hid hn; have HS := Lib.hid hsrc
  unfold maxLen at hc2
  clear hn hcell hsrc f1 f2 ha hb hg h
  go_enter Try.func39, Try.ntmps39
  go_wp2_with (go_at_call 64; ((with_reducible refine HO.out.mono ?_); rintro e w1 ⟨v1, rfl, ho1, hb1⟩))
  obtain ⟨p1, cc, rfl, _, hcc⟩ := ho1.form
  obtain ⟨g, rfl, _⟩ := ho1.get 0 (by rw [← HN.out]; omega)
  have hsz : w.heap.size ≤ g := (ho1.lt g rfl).1
  have hgl := (ho1.lt g rfl).2
  have c1 := (HS.out w1.drew (Below.drew hb1)).1
  have c2 := (HS.out w1.drew (Below.drew hb1)).2
  rw [← HN.out] at ho1 ⊢
  have HO1 : Hid (Own w.heap.size w1.drew (.slice (some ⟨g, 0, none⟩) n cc) l) := Lib.hid ho1
  have HB1 := Lib.hid (Below.drew hb1)
  unfold maxLen at hcc
  clear hb1 ho1
  go_region
  clear c1 c2
  have HB1' := HB1
  generalize w1.drew = w1d at *
  by_cases hq : a < j
  · have hE := HRES.out
    rw [if_pos hq] at hE
    have HE := Lib.hid hE
    clear hE HRES
    go_wp2_with (first
      | ((with_reducible refine wp_storeOwn rfl (.tmp 26) (.tmp 25) rfl w.heap.size g i n cc l (b : Int) rfl rfl HO1.out (by rw [← HN.out]; omega) ?_); intro w2 ho2 hg2; have HO2 := Lib.hid ho2; have HB2 := Lib.hid (HB1.out.grown hg2 HB1.out.size (by intro k hk; simp at hk; omega)); clear ho2 hg2)
      | ((with_reducible refine wp_storeOwn rfl (.tmp 30) (.tmp 29) rfl w.heap.size g b n cc _ (i : Int) rfl rfl HO2.out (by simp only [List.length_set]; rw [← HN.out]; omega) ?_); intro w3 ho3 hg3; have HO3 := Lib.hid ho3; have HB3 := Lib.hid (HB2.out.grown hg3 HB2.out.size (by intro k hk; simp at hk; omega)); clear ho3 hg3)
      | ((with_reducible refine wp_storeOwn rfl (.tmp 34) (.tmp 33) rfl w.heap.size g a n cc _ (j : Int) rfl rfl HO3.out (by simp only [List.length_set]; rw [← HN.out]; omega) ?_); intro w4 ho4 hg4; have HO4 := Lib.hid ho4; have HB4 := Lib.hid (HB3.out.grown hg4 HB3.out.size (by intro k hk; simp at hk; omega)); clear ho4 hg4)
      | ((with_reducible refine wp_storeOwn rfl (.tmp 38) (.tmp 37) rfl w.heap.size g j n cc _ (a : Int) rfl rfl HO4.out (by simp only [List.length_set]; rw [← HN.out]; omega) ?_); intro w5 ho5 hg5; have HO5 := Lib.hid ho5; have HB5 := Lib.hid (HB4.out.grown hg5 HB4.out.size (by intro k hk; simp at hk; omega)); clear ho5 hg5))
    go_ret
    exact ⟨_, rfl, by rw [← HE.out]; exact HO5.out, HB5.out⟩
  · have hE := HRES.out
    rw [if_neg hq] at hE
    have HE := Lib.hid hE
    clear hE HRES
    go_wp2_with (first
      | ((with_reducible refine wp_storeOwn rfl (.tmp 42) (.tmp 41) rfl w.heap.size g i n cc l (j : Int) rfl rfl HO1.out (by rw [← HN.out]; omega) ?_); intro w2 ho2 hg2; have HO2 := Lib.hid ho2; have HB2 := Lib.hid (HB1.out.grown hg2 HB1.out.size (by intro k hk; simp at hk; omega)); clear ho2 hg2)
      | ((with_reducible refine wp_storeOwn rfl (.tmp 46) (.tmp 45) rfl w.heap.size g j n cc _ (i : Int) rfl rfl HO2.out (by simp only [List.length_set]; rw [← HN.out]; omega) ?_); intro w3 ho3 hg3; have HO3 := Lib.hid ho3; have HB3 := Lib.hid (HB2.out.grown hg3 HB2.out.size (by intro k hk; simp at hk; omega)); clear ho3 hg3)
      | ((with_reducible refine wp_storeOwn rfl (.tmp 50) (.tmp 49) rfl w.heap.size g b n cc _ (a : Int) rfl rfl HO3.out (by simp only [List.length_set]; rw [← HN.out]; omega) ?_); intro w4 ho4 hg4; have HO4 := Lib.hid ho4; have HB4 := Lib.hid (HB3.out.grown hg4 HB3.out.size (by intro k hk; simp at hk; omega)); clear ho4 hg4)
      | ((with_reducible refine wp_storeOwn rfl (.tmp 54) (.tmp 53) rfl w.heap.size g a n cc _ (b : Int) rfl rfl HO4.out (by simp only [List.length_set]; rw [← HN.out]; omega) ?_); intro w5 ho5 hg5; have HO5 := Lib.hid ho5; have HB5 := Lib.hid (HB4.out.grown hg5 HB4.out.size (by intro k hk; simp at hk; omega)); clear ho5 hg5))
    go_ret
    exact ⟨_, rfl, by rw [← HE.out]; exact HO5.out, HB5.out⟩

set_option maxHeartbeats 4000000 in
set_option maxRecDepth 100000 in
theorem spec_EA_yes (l : List Int) (i j : Int) (w : World) (u : Value) (h : Rd w u l) (m : l.length ≤ 1048576) (hg : goodB l = true) :
    Calls Try.prog 18 #[u, .int .i64 i, .int .i64 j] w (Gives w (if okE l i j then exL l i j else []) (okE l i j)) := by
  have hgood := ahGood_any u l w h m
  rw [hg] at hgood
  have HA := Lib.hid hgood
  have HP := Lib.hid (fun w h => exPairs_any l w u h hg)
  have HE : Hid (∀ w, Rd w u l → okE l i j = true → Calls Try.prog 39 #[u, .int .i64 i, .int .i64 j] w (Made w (exL l i j))) := by
    intro w hr he
    unfold okE at he
    rw [Bool.and_eq_true, decide_eq_true_eq] at he
    obtain ⟨⟨h0, h1, h2⟩, h3⟩ := he
    obtain ⟨i, rfl⟩ := Int.eq_ofNat_of_zero_le h0
    obtain ⟨j, rfl⟩ := Int.eq_ofNat_of_zero_le (show 0 ≤ j by omega)
    exact exAt_any l i j w u hr hg (by omega) (by omega)
  have HM : Hid (okE l i j = true ↔ [i, j] ∈ pairsL l) := okE_mem
  have HT : Hid (∀ r ∈ pairsL l, r.length = 2) := fun r hr => by obtain ⟨i, j, _, _, _, rfl⟩ := pairs_mem.1 hr; rfl
  have hle := (ex_facts hg).2.2.2
  generalize exL l i j = E at *
  generalize okE l i j = K at *
  generalize pairsL l = P at *
  obtain ⟨RES, hRES⟩ : ∃ RES, (if K = true then E else []) = RES := ⟨_, rfl⟩
  rw [hRES]
  have HRES := Lib.hid hRES
  clear hRES
  have H0 := Lib.hid h
  obtain ⟨a0, c0, rfl, _⟩ := h
  clear hgood hg m
  go_enter Try.func18, Try.ntmps18
  go_wp2_with (first
    | (go_at_call 34; ((with_reducible refine HA.out.mono ?_); rintro e w0 ⟨rfl, hb0⟩; have HB0 := Lib.hid hb0; have H1 := Lib.hid (H0.out.below hb0); clear hb0))
    | (go_at_call 38; ((refine (HP.out _ H1.out).mono ?_); rintro e w1 ⟨vf, us, rfl, hU, hb1⟩; obtain ⟨au, cu, rfl, hcu1, hcu2⟩ := hU.form; unfold maxLen at hcu2; have HU := Lib.hid hU; have HB1 := Lib.hid (Below.step HB0.out hb1); clear hU hb1)))
  go_loopw [16] (fun i' wr => ∃ k : Nat, k ≤ P.length ∧ i' = .int .i64 (k : Int) ∧ wr = w1 ∧ Hid (∀ q, q < k → P.getD q [] ≠ [i, j])) (fun i _ => P.length - (intOf i).toNat)
  case atStart => exact ⟨0, by omega, rfl, rfl, fun q hq => absurd hq (Nat.not_lt_zero _)⟩
  case round =>
    obtain ⟨k, hk, rfl, rfl, HF⟩ := hrel
    by_cases hlt : k < P.length
    · obtain ⟨gu, rfl, _, _, hcell, _⟩ := HU.out.at (by omega)
      have hck := hcell k hlt
      have hru := HU.out.own k hlt
      have hmem : P.getD k [] ∈ P := by simp [List.getD, hlt]
      have h2l := HT.out _ hmem
      have hstep : P.getD k [] ≠ [i, j] → Hid (∀ q, q < k + 1 → P.getD q [] ≠ [i, j]) := fun h q hq => by
        rcases Nat.lt_or_ge q k with h1 | h1
        · exact HF.out q h1
        · rw [show q = k by omega]; exact h
      generalize P.getD k [] = r at *
      generalize rowV us k = pr at *
      obtain ⟨ap, cp, rfl, hcp1, hcp2⟩ := hru.form
      rw [h2l] at hcp1 hck
      unfold maxLen at hcp2
      obtain ⟨gp, rfl, k0⟩ := hru.get 0 (by omega)
      obtain ⟨gp', e', k1⟩ := hru.get 1 (by omega)
      simp only [Option.some.injEq, Addr.mk.injEq, and_true] at e'
      subst e'
      obtain ⟨r0, r1, rfl⟩ : ∃ r0 r1, r = [r0, r1] := by
        match r, h2l with
        | [x, y], _ => exact ⟨x, y, rfl⟩
      simp only [List.getD_cons_zero, List.getD_cons_succ] at k0 k1
      clear hcell hru h2l
      by_cases c1 : r0 = i
      · by_cases c2 : r1 = j
        · subst c1; subst c2
          have hK : K = true := HM.out.2 hmem
          subst hK
          have HQ := Lib.hid (HE.out wr (H0.out.below HB1.out) rfl)
          have HE2 : Hid (E = RES) := HRES.out
          clear hstep hmem
          go_wp2_with (go_at_call 39; ((with_reducible refine HQ.out.mono ?_); rintro e w2 ⟨v2, rfl, ho2, hb2⟩; have HO2 := Lib.hid ho2; have HB2 := Lib.hid (Below.step HB1.out hb2); obtain ⟨x1, x2, x3, rfl⟩ := ho2.form'; clear ho2 hb2))
          go_ret2
          exact ⟨_, rfl, by rw [← HE2.out]; exact HO2.out.mono HB1.out.size, HB2.out⟩
        · subst c1
          have hb : (r1 == j) = false := by simp [c2]
          have HN := hstep (fun e => by simp at e; exact c2 e)
          clear hstep
          go_wp2
          go_roundw
          case rel => exact ⟨k + 1, by omega, by go_num, by trivial, HN.out⟩
          case measure => simp [intOf]; omega
      · have hb : (r0 == i) = false := by simp [c1]
        have HN := hstep (fun e => by simp at e; exact c1 e.1)
        clear hstep
        go_wp2
        go_roundw
        case rel => exact ⟨k + 1, by omega, by go_num, by trivial, HN.out⟩
        case measure => simp [intOf]; omega
    · obtain rfl : k = P.length := by omega
      have hK : K = false := by
        cases K with
        | false => rfl
        | true =>
          exfalso
          obtain ⟨q, hq, e⟩ := List.mem_iff_getElem.1 (HM.out.1 rfl)
          exact HF.out q hq (by simp [List.getD, hq, e])
      subst hK
      have HE2 : Hid ([] = RES) := HRES.out
      go_wp2
      go_ret2
      exact ⟨_, rfl, by rw [← HE2.out]; exact Own.nil _ _, HB1.out⟩
theorem spec_ExchangeAt (l : List Int) (i j : Int) (w : World) (u : Value) (h : Rd w u l) (m : l.length ≤ 1048576) :
    Calls Try.prog 18 #[u, .int .i64 i, .int .i64 j] w (Gives w (res_ExchangeAt l i j) (ok_ExchangeAt l i j)) := by
  unfold res_ExchangeAt ok_ExchangeAt
  cases hg : goodB l with
  | true =>
    simp only [Bool.true_and]
    exact spec_EA_yes l i j w u h m hg
  | false =>
    have hgood := ahGood_any u l w h m
    rw [hg] at hgood
    have HA := Lib.hid hgood
    obtain ⟨a0, c0, rfl, _⟩ := h
    clear hgood hg m
    simp only [Bool.false_and, Bool.false_eq_true, if_false]
    go_enter Try.func18, Try.ntmps18
    go_wp2_with (go_at_call 34; ((with_reducible refine HA.out.mono ?_); rintro e w0 ⟨rfl, hb0⟩; have HB0 := Lib.hid hb0; clear hb0))
    go_ret2
    exact ⟨_, rfl, Own.nil _ _, HB0.out⟩

set_option maxHeartbeats 4000000 in
set_option maxRecDepth 100000 in
theorem impl_ExchangeAt (l : List Int) (i j : Int) (w : World) (u : Value) (h : Rd w u l) (m : l.length ≤ 1048576) :
    Calls Try.prog 19 #[u, .int .i64 i, .int .i64 j] w (Gives w (res_ExchangeAt l i j) (ok_ExchangeAt l i j)) := by
  unfold res_ExchangeAt ok_ExchangeAt
  cases hg : goodB l with
  | false =>
    simp only [Bool.false_and, Bool.false_eq_true, if_false]
    have HR := Lib.hid (readSystem_no u l w h hg)
    obtain ⟨a0, c0, rfl, _⟩ := h
    clear hg m
    go_enter Try.func19, Try.ntmps19
    go_wp2_with fail
    refine HR.out.mono ?_
    rintro e w1 ⟨rfl, hb⟩
    have HB1 := Lib.hid hb; clear hb
    go_wp2_with ((with_reducible refine wp_storeNew rfl (.tmp 8) (.tmp 14) rfl _ [] (Nat.zero_le _) rfl rfl ?_); intro w2 hs2 hb2; have HB2 := Lib.hid (Below.step HB1.out hb2); clear hs2 hb2)
    go_ret2
    exact ⟨_, rfl, Own.nil _ _, HB2.out⟩
  | true =>
    simp only [Bool.true_and]
    have hl := good_len' hg
    have HR := Lib.hid (readSystem_yes u l w h hg)
    have HG := Lib.hid hg; have HL := Lib.hid hl
    obtain ⟨a0, c0, rfl, _⟩ := h
    have HSZ : Hid (∀ W b, SysIn W b l → W.cell? ⟨b, 12, none⟩ = some (.int .i64 (l.length : Int))) := fun W b hs => hs.size hl
    unfold okE
    have HN0 : Hid (∀ b : Bool, (if (false && b) = true then exL l i j else []) = []) := fun b => rfl
    by_cases c1 : i < 0
    · have e : decide (0 ≤ i ∧ i < j ∧ j < (l.length : Int)) = false := decide_eq_false (by omega)
      rw [e]
      simp only [Bool.false_and, Bool.false_eq_true, if_false]
      clear e hg m
      go_enter Try.func19, Try.ntmps19
      go_wp2_with fail
      refine HR.out.mono ?_
      rintro e w1 ⟨rfl, hb⟩
      have HB1 := Lib.hid hb; clear hb
      go_wp2_with ((with_reducible refine wp_storeNew rfl (.tmp 8) (.tmp 14) rfl _ l HL.out rfl rfl ?_); intro w2 hs2 hb2; have HB2 := Lib.hid (Below.step HB1.out hb2); clear hs2 hb2)
      go_ret2
      exact ⟨_, rfl, Own.nil _ _, HB2.out⟩
    · by_cases c2 : j ≤ i
      · have e : decide (0 ≤ i ∧ i < j ∧ j < (l.length : Int)) = false := decide_eq_false (by omega)
        rw [e]
        simp only [Bool.false_and, Bool.false_eq_true, if_false]
        clear e hg m
        go_enter Try.func19, Try.ntmps19
        go_wp2_with fail
        refine HR.out.mono ?_
        rintro e w1 ⟨rfl, hb⟩
        have HB1 := Lib.hid hb; clear hb
        go_wp2_with ((with_reducible refine wp_storeNew rfl (.tmp 8) (.tmp 14) rfl _ l HL.out rfl rfl ?_); intro w2 hs2 hb2; have HB2 := Lib.hid (Below.step HB1.out hb2); clear hs2 hb2)
        go_ret2
        exact ⟨_, rfl, Own.nil _ _, HB2.out⟩
      · by_cases c3 : (l.length : Int) ≤ j
        · have e : decide (0 ≤ i ∧ i < j ∧ j < (l.length : Int)) = false := decide_eq_false (by omega)
          rw [e]
          simp only [Bool.false_and, Bool.false_eq_true, if_false]
          clear e hg m
          go_enter Try.func19, Try.ntmps19
          go_wp2_with fail
          refine HR.out.mono ?_
          rintro e w1 ⟨rfl, hb⟩
          have HB1 := Lib.hid hb; clear hb
          go_wp2_with ((with_reducible refine wp_storeNew rfl (.tmp 8) (.tmp 14) rfl _ l HL.out rfl rfl ?_); intro w2 hs2 hb2; have HB2 := Lib.hid (Below.step HB1.out hb2); have k12 := HSZ.out _ _ hs2; clear hs2 hb2)
          go_ret2
          exact ⟨_, rfl, Own.nil _ _, HB2.out⟩
        · have e : decide (0 ≤ i ∧ i < j ∧ j < (l.length : Int)) = true := decide_eq_true (by omega)
          rw [e]
          simp only [Bool.true_and]
          obtain ⟨i, rfl⟩ := Int.eq_ofNat_of_zero_le (show 0 ≤ i by omega)
          obtain ⟨j, rfl⟩ := Int.eq_ofNat_of_zero_le (show 0 ≤ j by omega)
          have HX := Lib.hid (fun w => exchanged_any l i j w hg (by omega) (by omega))
          have hEl := exL_length l (i : Int) (j : Int)
          have HEL : Hid ((exL l (i : Int) (j : Int)).length ≤ 12) := by show _ ≤ 12; omega
          have HLI := Lib.hid (fun w => list_any (exL l (i : Int) (j : Int)) w HEL.out)
          generalize exL l (i : Int) (j : Int) = E at *
          generalize hK : shareB l (i : Int) (j : Int) = K at *
          clear e hg m hK hEl HN0
          cases K with
          | true =>
            simp only [if_true] at HX ⊢
            go_enter Try.func19, Try.ntmps19
            go_wp2_with fail
            refine HR.out.mono ?_
            rintro e w1 ⟨rfl, hb⟩
            have HB1 := Lib.hid hb; clear hb
            go_wp2_with (first
              | ((with_reducible refine wp_storeNew rfl (.tmp 8) (.tmp 14) rfl _ l HL.out rfl rfl ?_); intro w2 hs2 hb2; have HB2 := Lib.hid (Below.step HB1.out hb2); have HS2 := Lib.hid hs2; have k12 := HSZ.out _ _ hs2; clear hs2 hb2)
              | (with_reducible refine wp_loadSys rfl (.tmp 8) rfl w1.heap.size l HL.out rfl HS2.out ?_)
              | (go_at_call 40; ((with_reducible refine (HX.out _).mono ?_); rintro e w3 ⟨rfl, hb3⟩; have HB3 := Lib.hid (Below.step HB2.out hb3); clear hb3))
              | ((with_reducible refine wp_storeNew rfl (.tmp 10) (.tmp 38) rfl _ E HEL.out rfl rfl ?_); intro w4 hs4 hb4; have HB4 := Lib.hid (Below.step HB3.out hb4); have HS4 := Lib.hid hs4; clear hs4 hb4)
              | (with_reducible refine wp_loadSys rfl (.tmp 10) rfl w3.heap.size E HEL.out rfl HS4.out ?_)
              | (go_at_call 41; ((with_reducible refine (HLI.out _).mono ?_); rintro e w5 ⟨v5, rfl, ho5, hb5⟩; have HO5 := Lib.hid ho5; have HB5 := Lib.hid (Below.step HB4.out hb5); obtain ⟨x1, x2, x3, rfl⟩ := ho5.form'; clear ho5 hb5)))
            go_ret2
            exact ⟨_, rfl, HO5.out.mono HB4.out.size, HB5.out⟩
          | false =>
            simp only [Bool.false_eq_true, if_false] at HX ⊢
            go_enter Try.func19, Try.ntmps19
            go_wp2_with fail
            refine HR.out.mono ?_
            rintro e w1 ⟨rfl, hb⟩
            have HB1 := Lib.hid hb; clear hb
            go_wp2_with (first
              | ((with_reducible refine wp_storeNew rfl (.tmp 8) (.tmp 14) rfl _ l HL.out rfl rfl ?_); intro w2 hs2 hb2; have HB2 := Lib.hid (Below.step HB1.out hb2); have HS2 := Lib.hid hs2; have k12 := HSZ.out _ _ hs2; clear hs2 hb2)
              | (with_reducible refine wp_loadSys rfl (.tmp 8) rfl w1.heap.size l HL.out rfl HS2.out ?_)
              | (go_at_call 40; ((with_reducible refine (HX.out _).mono ?_); rintro e w3 ⟨rfl, hb3⟩; have HB3 := Lib.hid (Below.step HB2.out hb3); clear hb3))
              | ((with_reducible refine wp_storeNew rfl (.tmp 10) (.tmp 38) rfl _ [] (Nat.zero_le _) rfl rfl ?_); intro w4 hs4 hb4; have HB4 := Lib.hid (Below.step HB3.out hb4); have HS4 := Lib.hid hs4; clear hs4 hb4))
            go_ret2
            exact ⟨_, rfl, Own.nil _ _, HB4.out⟩

/-! ### CountExchanges -/
def ok_CountExchanges (l : List Int) : Bool := goodB l
def res_CountExchanges (l : List Int) : Int := if goodB l then ((pairsL l).length : Int) else 0

set_option maxHeartbeats 1000000 in
theorem spec_CountExchanges (l : List Int) (w : World) (u : Value) (h : Rd w u l) (m : l.length ≤ 1048576) :
    Calls Try.prog 23 #[u] w (GivesN w (res_CountExchanges l) (ok_CountExchanges l)) := by
  unfold res_CountExchanges ok_CountExchanges
  have hgood := ahGood_any u l w h m
  cases hg : goodB l with
  | true =>
    rw [hg] at hgood
    have HA := Lib.hid hgood; have H0 := Lib.hid h
    have HP := Lib.hid (fun w h => exPairs_any l w u h hg)
    generalize pairsL l = P at *
    obtain ⟨a0, c0, rfl, _⟩ := h
    clear hgood hg m
    simp only [if_true]
    go_enter Try.func23, Try.ntmps23
    go_wp2_with (first
      | (go_at_call 34; ((with_reducible refine HA.out.mono ?_); rintro e w0 ⟨rfl, hb0⟩; have HB0 := Lib.hid hb0; have H1 := Lib.hid (H0.out.below hb0); clear hb0))
      | (go_at_call 38; ((refine (HP.out _ H1.out).mono ?_); rintro e w1 ⟨vf, us, rfl, hU, hb1⟩; obtain ⟨au, cu, rfl, hcu1, hcu2⟩ := hU.form; have HB1 := Lib.hid (Below.step HB0.out hb1); clear hU hb1)))
    go_ret2
    exact ⟨rfl, HB1.out⟩
  | false =>
    rw [hg] at hgood
    have HA := Lib.hid hgood
    obtain ⟨a0, c0, rfl, _⟩ := h
    clear hgood hg m
    simp only [Bool.false_eq_true, if_false]
    go_enter Try.func23, Try.ntmps23
    go_wp2_with (go_at_call 34; ((with_reducible refine HA.out.mono ?_); rintro e w0 ⟨rfl, hb0⟩; have HB0 := Lib.hid hb0; clear hb0))
    go_ret2
    exact ⟨rfl, HB0.out⟩

def chs (m : Nat) : Nat → Nat
  | 0 => 1
  | 1 => m
  | _ => m * (m - 1) / 2
set_option maxHeartbeats 4000000 in
theorem choices2_any (m : Nat) (hm : m ≤ 12) (w : World) :
    Calls Try.prog 47 #[.int .i64 (m : Int), .int .i64 2] w fun e w' => e = .returned (.int .i64 ((m * (m - 1) / 2 : Nat) : Int)) ∧ w = w' := by
  have : m = 0 ∨ m = 1 ∨ m = 2 ∨ m = 3 ∨ m = 4 ∨ m = 5 ∨ m = 6 ∨ m = 7 ∨ m = 8 ∨ m = 9 ∨ m = 10 ∨ m = 11 ∨ m = 12 := by omega
  clear hm
  rcases this with rfl | rfl | rfl | rfl | rfl | rfl | rfl | rfl | rfl | rfl | rfl | rfl | rfl
  all_goals
    go_enter Try.func47, Try.ntmps47
    go_wp2
    refine wp_loop_rounds 3 ?_
    rw [rounds_succ]
    go_wp2
    rw [rounds_succ]
    go_wp2
    rw [rounds_succ]
    go_wp2
    go_ret
    first | exact ⟨rfl, rfl⟩ | exact ⟨rfl, trivial⟩ | simp
set_option maxHeartbeats 2000000 in
theorem impl_CE_yes (l : List Int) (w : World) (u : Value) (h : Rd w u l) (hg : goodB l = true) :
    Calls Try.prog 24 #[u] w (GivesN w ((pairsL l).length : Int) true) := by
  have hl := good_len' hg
  have HR := Lib.hid (readSystem_yes u l w h hg)
  have HF := Lib.hid (fun w => faceLists_any l w hl)
  obtain ⟨hf13, hf12⟩ := faceW_small hg
  have HQ : Hid ((faceW l).foldl (fun (c : Nat) (f : List Int) => c + f.length * (f.length - 1) / 2) 0 = (pairsL l).length) := (ex_facts hg).2.2.1
  have HL := Lib.hid hl
  obtain ⟨a0, c0, rfl, _⟩ := h
  generalize (pairsL l).length = R at *
  generalize faceW l = F at *
  have HF12 := Lib.hid hf12
  clear hg hl hf12
  go_enter Try.func24, Try.ntmps24
  go_wp2_with fail
  refine HR.out.mono ?_
  rintro e w1 ⟨rfl, hb⟩
  have HB1 := Lib.hid hb; clear hb
  go_wp2_with (first
    | ((with_reducible refine wp_storeNew rfl (.tmp 4) (.tmp 12) rfl _ l HL.out rfl rfl ?_); intro w2 hs2 hb2; have HB2 := Lib.hid (Below.step HB1.out hb2); have HS2 := Lib.hid hs2; clear hs2 hb2)
    | (with_reducible refine wp_loadSys rfl (.tmp 4) rfl w1.heap.size l HL.out rfl HS2.out ?_)
    | (go_at_call 37; ((with_reducible refine (HF.out _).mono ?_); rintro e w3 ⟨vf, us, rfl, hU, hb3⟩; obtain ⟨au, cu, rfl, hcu1, hcu2⟩ := hU.form; unfold maxLen at hcu2; have HU := Lib.hid hU; have HB3 := Lib.hid (Below.step HB2.out hb3); clear hU hb3)))
  go_loopw [6, 19] (fun s i wr => ∃ k c : Nat, k ≤ F.length ∧ i = .int .i64 (k : Int) ∧ s = .int .i64 (c : Int) ∧ c ≤ 66 * k ∧ wr = w3 ∧ Hid ((F.drop k).foldl (fun (c : Nat) (f : List Int) => c + f.length * (f.length - 1) / 2) c = R)) (fun _ i _ => F.length - (intOf i).toNat)
  case atStart => exact ⟨0, 0, by omega, rfl, rfl, by omega, rfl, HQ.out⟩
  case round =>
    obtain ⟨k, c, hk, rfl, rfl, hc, rfl, HF1⟩ := hrel
    by_cases hlt : k < F.length
    · obtain ⟨gu, rfl, _, _, hcell, _⟩ := HU.out.at (by omega)
      have hck := hcell k hlt
      have hru := HU.out.own k hlt
      have hfd := fold_drop [] hlt HF1.out
      have hfl := HF12.out k
      generalize F.getD k [] = f at *
      generalize rowV us k = pr at *
      obtain ⟨ap, cp, rfl, hcp1, hcp2⟩ := hru.form
      unfold maxLen at hcp2
      have HCH := Lib.hid (fun w => choices2_any f.length hfl w)
      have hle : f.length * (f.length - 1) / 2 ≤ 66 := by
        have : f.length * (f.length - 1) ≤ 12 * 11 := Nat.mul_le_mul hfl (by omega)
        omega
      generalize f.length * (f.length - 1) / 2 = y at *
      have HFD := Lib.hid hfd
      have hw : IntKind.i64.wrap ((c : Int) + (y : Int)) = (c : Int) + (y : Int) := IntWalk.i64_in _ (by omega)
      clear hcell hru hfd
      go_wp2_with (go_at_call 47; ((with_reducible refine (HCH.out _).mono ?_); rintro e w' ⟨rfl, rfl⟩))
      go_roundw
      case rel => exact ⟨k + 1, c + y, by omega, by go_num, by go_num, by omega, by trivial, HFD.out⟩
      case measure => simp [intOf]; omega
    · obtain rfl : k = F.length := by omega
      have hfin := fold_end (by omega) HF1.out
      subst hfin
      go_wp2
      go_ret2
      exact ⟨rfl, HB3.out⟩
set_option maxHeartbeats 1000000 in
theorem impl_CountExchanges (l : List Int) (w : World) (u : Value) (h : Rd w u l) (m : l.length ≤ 1048576) :
    Calls Try.prog 24 #[u] w (GivesN w (res_CountExchanges l) (ok_CountExchanges l)) := by
  unfold res_CountExchanges ok_CountExchanges
  cases hg : goodB l with
  | true => exact impl_CE_yes l w u h hg
  | false =>
    simp only [Bool.false_eq_true, if_false]
    have HR := Lib.hid (readSystem_no u l w h hg)
    obtain ⟨a0, c0, rfl, _⟩ := h
    clear hg m
    go_enter Try.func24, Try.ntmps24
    go_wp2_with fail
    refine HR.out.mono ?_
    rintro e w1 ⟨rfl, hb⟩
    have HB1 := Lib.hid hb; clear hb
    go_wp2_with ((with_reducible refine wp_storeNew rfl (.tmp 4) (.tmp 12) rfl _ [] (Nat.zero_le _) rfl rfl ?_); intro w2 hs2 hb2; have HB2 := Lib.hid (Below.step HB1.out hb2); clear hs2 hb2)
    go_ret2
    exact ⟨rfl, HB2.out⟩

end Go.Proofs.Ytfcjgcbjiongpaa
