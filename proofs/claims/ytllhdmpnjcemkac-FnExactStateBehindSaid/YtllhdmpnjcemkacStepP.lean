/- StepState in the model: the whole. -/
import Derived.Test.YtllhdmpnjcemkacStepG
import Derived.Test.YtllhdmpnjcemkacStepM1
import Derived.Test.YtllhdmpnjcemkacStepM4
import Derived.Test.YtllhdmpnjcemkacStepH
namespace Go.Proofs.Ytllhdmpnjcemkac
open Go.RowKit
set_option linter.unusedSimpArgs false
set_option linter.unusedVariables false

/-- what the model's step makes, state or no state -/
def modO (u d : List Int) (c : Int) (k : Nat) : List Int × List Int × Int :=
  match rawStep (-1) u d c k with
  | some (u', d', c') => (renU u', renD u' d', c')
  | none => ([], [], 0)
def modB (u d : List Int) (c : Int) (k : Nat) : Bool :=
  match rawStep (-1) u d c k with
  | some (u', d', c') => stateB (renU u') (renD u' d') c'
  | none => false
theorem stStep_any (u d : List Int) (c : Int) (k : Nat) (hk : k ≤ 3) (w : World) (v1 v2 : Value) (h1 : Rd w v1 u) (h2 : Rd w v2 d) (hu : u.length ≤ 6) (hd : d.length ≤ 6) (hc0 : 0 ≤ c) (hc6 : c ≤ 6) :
    Calls Try.prog 52 #[.agg #[v1, v2, .int .i64 c], .int .i64 (k : Int)] w (MadeStO w (modO u d c k).1 (modO u d c k).2.1 (modO u d c k).2.2 (modB u d c k)) := by
  unfold modO modB
  have hk4 : k = 0 ∨ k = 1 ∨ k = 2 ∨ k = 3 := by omega
  rcases hk4 with rfl | rfl | rfl | rfl
  · exact stStep0 u d c w v1 v2 h1 h2 hu hd
  · rcases snoc_cases d with rfl | ⟨d0, x, rfl⟩
    · exact stStep_no u [] c 1 w v1 v2 h1 h2 hu hd (.inr ⟨.inl rfl, rfl⟩)
    · rw [show rawStep (-1) u (d0 ++ [x]) c 1 = some (u ++ [x], d0, c) by simp [rawStep, lastI_snoc, dropTop_snoc]]
      exact stStep1 u (d0 ++ [x]) d0 x c w v1 v2 h1 h2 hu hd rfl
  · rcases snoc_cases u with rfl | ⟨u0, x, rfl⟩
    · exact stStep_no [] d c 2 w v1 v2 h1 h2 hu hd (.inl ⟨by omega, by omega, rfl⟩)
    · rw [show rawStep (-1) (u0 ++ [x]) d c 2 = some (u0, d ++ [x], c) by simp [rawStep, lastI_snoc, dropTop_snoc]]
      exact stStep2 (u0 ++ [x]) d u0 x c w v1 v2 h1 h2 hu hd rfl
  · rcases snoc_cases u with rfl | ⟨u0, x, rfl⟩
    · exact stStep_no [] d c 3 w v1 v2 h1 h2 hu hd (.inl ⟨by omega, by omega, rfl⟩)
    · rcases snoc_cases d with rfl | ⟨d0, y, rfl⟩
      · rw [show rawStep (-1) (u0 ++ [x]) [] c 3 = none by simp [rawStep]]
        exact stStep_no (u0 ++ [x]) [] c 3 w v1 v2 h1 h2 hu hd (.inr ⟨.inr rfl, rfl⟩)
      · rw [show rawStep (-1) (u0 ++ [x]) (d0 ++ [y]) c 3 = some (u0.map (mgI x y), d0.map (mgI x y), if x = y then c + 1 else c) by simp [rawStep, lastI_snoc, dropTop_snoc]]
        exact stStep3 (u0 ++ [x]) (d0 ++ [y]) u0 d0 x y c w v1 v2 h1 h2 hu hd hc0 hc6 rfl rfl
theorem minus_new {u d : List Int} {c : Int} (h : stateB u d c = true) : (-1 : Int) ∉ u ++ d := fun hm => by have := state_small h _ hm; omega
theorem mod_same {u d : List Int} {c : Int} (h : stateB u d c = true) {k : Nat} (he : ∀ p : Int, rawStep p u d c k = rawStep (-1) u d c k) : modB u d c k = (stepO u d c k).isSome ∧ ((stepO u d c k).isSome = true → modO u d c k = (stU (stepO u d c k), stD (stepO u d c k), stC (stepO u d c k))) := by
  have hf := state_facts h
  unfold modB modO stepO
  rw [he (partI u d)]
  cases hr : rawStep (-1) u d c k with
  | none => exact ⟨rfl, fun h => by cases h⟩
  | some r =>
    obtain ⟨a, b, x⟩ := r
    have hc := raw_c hr
    simp only
    rw [ok_state (raw_ok (state_ok h) (minus_new h) hr)]
    by_cases hl : a.length ≤ 6 ∧ b.length ≤ 6 ∧ x ≤ 6
    · rw [if_pos hl, decide_eq_true hl.1, decide_eq_true hl.2.1, inB_yes (by omega) hl.2.2]
      simp [stU, stD, stC]
    · rw [if_neg hl]
      refine ⟨?_, fun h => by cases h⟩
      rw [show (none : Option (List Int × List Int × Int)).isSome = false from rfl, ← Bool.not_eq_true]
      simp only [Bool.and_eq_true, decide_eq_true_eq, inB_iff]
      omega
/-- both ways to step agree -/
theorem mod_step {u d : List Int} {c : Int} (h : stateB u d c = true) (k : Nat) : modB u d c k = (stepO u d c k).isSome ∧ ((stepO u d c k).isSome = true → modO u d c k = (stU (stepO u d c k), stD (stepO u d c k), stC (stepO u d c k))) := by
  have hp := part_new h
  have hm := minus_new h
  have hf := state_facts h
  match k with
  | 0 =>
    have e1 : rawStep (-1) u d c 0 = some (u ++ [-1], d ++ [-1], c) := rfl
    have e2 : rawStep (partI u d) u d c 0 = some (u ++ [partI u d], d ++ [partI u d], c) := rfl
    have hn := new_part hp hm
    unfold modB modO stepO
    rw [e1, e2]
    simp only
    rw [hn.1, hn.2, ok_state (raw_ok (state_ok h) hp e2)]
    simp only [List.length_append, List.length_singleton]
    by_cases hl : u.length + 1 ≤ 6 ∧ d.length + 1 ≤ 6 ∧ c ≤ 6
    · rw [if_pos hl, decide_eq_true hl.1, decide_eq_true hl.2.1, inB_yes hf.2.2.1.1 hl.2.2]
      simp [stU, stD, stC]
    · rw [if_neg hl]
      refine ⟨?_, fun h => by cases h⟩
      rw [show (none : Option (List Int × List Int × Int)).isSome = false from rfl, ← Bool.not_eq_true]
      simp only [Bool.and_eq_true, decide_eq_true_eq, inB_iff]
      omega
  | 1 => exact mod_same h (fun p => rfl)
  | 2 => exact mod_same h (fun p => rfl)
  | 3 => exact mod_same h (fun p => rfl)
  | k + 4 => exact mod_same h (fun p => rfl)

theorem results_spss (tmps : Array Value) (w : World) (g : Nat) (v1 v2 v3 : Value) (ok : Bool) (hg : Box3 27 w g v1 v2 v3) (h2 : tmps.getD 4 undef = .pointer (some ⟨g, 0, none⟩)) (h3 : tmps.getD 5 undef = .bool ok) :
    (results Try.f22 tmps).run Try.prog w = .ok (.tuple #[.agg #[v1, v2, v3], .bool ok]) w := by
  have h2' : tmps[4]?.getD undef = .pointer (some ⟨g, 0, none⟩) := by simpa using h2
  have h3' : tmps[5]?.getD undef = .bool ok := by simpa using h3
  have hr : Try.f22.results = #[.cell 4 27, .tmp 5] := by kernel_rfl
  simp [results, hr, h2', h3', asAddr, run_loadSt w g v1 v2 v3 hg]

set_option maxHeartbeats 4000000 in
set_option maxRecDepth 100000 in
theorem spec_StepState (u d : List Int) (c k : Int) (w : World) (v1 v2 : Value) (h1 : Rd w v1 u) (h2 : Rd w v2 d) (wu : Wf u) (wd : Wf d) :
    Calls Try.prog 22 #[.agg #[v1, v2, .int .i64 c], .int .i64 k] w (GivesSt w (res1_StepState u d c k) (res2_StepState u d c k) (res3_StepState u d c k) (ok_StepState u d c k)) := by
  unfold res1_StepState res2_StepState res3_StepState ok_StepState
  have hA0 := Box3.new 27 w v1 v2 (.int .i64 c)
  have hA := hA0.below (Below.alloc1 _ (.cells #[.slice none 0 0, .slice none 0 0, .int .i64 0] 27))
  have hR := Box3.new 27 (w.alloc (.cells #[v1, v2, .int .i64 c] 27)) (.slice none 0 0) (.slice none 0 0) (.int .i64 0)
  rw [World.size_alloc] at hR
  have B2 := Below.step (Below.alloc1 w (.cells #[v1, v2, .int .i64 c] 27)) (Below.alloc1 _ (.cells #[.slice none 0 0, .slice none 0 0, .int .i64 0] 27))
  have R1 := h1.below B2; have R2 := h2.below B2
  have hg := stGood_any v1 v2 u d c _ R1 R2
  have hin := fun w => l1In_any k 0 3 w
  have k0 := hA.c0; have k1 := hA.c1; have k2 := hA.c2
  have HA := Lib.hid hA; have HB := Lib.hid B2; have HR := Lib.hid hR; have HR1 := Lib.hid R1; have HR2 := Lib.hid R2
  clear hA0 hA hR B2 R1 R2 h1 h2
  have fin : ∀ (W : World) (a : Act), Box3 27 W (w.heap.size + 1) (.slice none 0 0) (.slice none 0 0) (.int .i64 0) → Below w.heap.size w W → a.defers = [] → a.tmps.getD 4 undef = .pointer (some ⟨w.heap.size + 1, 0, none⟩) → a.tmps.getD 5 undef = .bool false → bodyPost Try.prog Try.f22 (GivesSt w [] [] 0 false) .ret a (((W.setCell ⟨w.heap.size + 1, 0, none⟩ (.slice none 0 0)).setCell ⟨w.heap.size + 1, 1, none⟩ (.slice none 0 0)).setCell ⟨w.heap.size + 1, 2, none⟩ (.int .i64 0)) := fun W a hW hB h0 h4 h5 =>
    bodyPost_ret (results_spss _ _ (w.heap.size + 1) _ _ _ false (((hW.set0 _).set1 _).set2 _) h4 h5) h0 ⟨_, _, rfl, Own.nil _ _, Own.nil _ _, ApartS.nil _, ((hB.setCell (p := ⟨w.heap.size + 1, 0, none⟩) (Nat.le_succ _) _).setCell (p := ⟨w.heap.size + 1, 1, none⟩) (Nat.le_succ _) _).setCell (p := ⟨w.heap.size + 1, 2, none⟩) (Nat.le_succ _) _⟩
  have FIN := Lib.hid fin
  clear fin
  cases hs : stateB u d c with
  | false =>
    have e : stepK u d c k = none := by unfold stepK; rw [if_neg (by simp [hs])]
    rw [e]
    rw [hs] at hg
    have HG := Lib.hid hg
    clear hg hs e hin
    show Calls Try.prog 22 #[.agg #[v1, v2, .int .i64 c], .int .i64 k] w (GivesSt w [] [] 0 false)
    go_enter Try.func22, Try.ntmps22
    go_wp2_with fail
    refine HG.out.mono ?_
    rintro e w1 ⟨rfl, hb1⟩
    have HRx := Lib.hid (HR.out.below hb1); have HBx := Lib.hid (Below.step HB.out hb1)
    have r0 := HRx.out.c0; have r1 := HRx.out.c1; have r2 := HRx.out.c2; have f0 := HRx.out.free 0; have f1 := HRx.out.free 1; have f2 := HRx.out.free 2
    clear hb1 k0 k1 k2
    go_wp2
    exact FIN.out _ _ HRx.out HBx.out rfl rfl rfl
  | true =>
    rw [hs] at hg
    cases hk : inB k 0 3 with
    | false =>
      have e : stepK u d c k = none := by
        unfold stepK; rw [if_neg]
        intro h
        have := inB_yes h.2.1 h.2.2
        rw [hk] at this; cases this
      rw [e]
      rw [hk] at hin
      have HG := Lib.hid hg; have HI := Lib.hid hin
      clear hg hs e hin hk
      show Calls Try.prog 22 #[.agg #[v1, v2, .int .i64 c], .int .i64 k] w (GivesSt w [] [] 0 false)
      go_enter Try.func22, Try.ntmps22
      go_wp2_with fail
      refine HG.out.mono ?_
      rintro e w1 ⟨rfl, hb1⟩
      have HRx := Lib.hid (HR.out.below hb1); have HBx := Lib.hid (Below.step HB.out hb1)
      have r0 := HRx.out.c0; have r1 := HRx.out.c1; have r2 := HRx.out.c2; have f0 := HRx.out.free 0; have f1 := HRx.out.free 1; have f2 := HRx.out.free 2
      clear hb1 k0 k1 k2
      go_wp2_with (go_at_call 50; (with_reducible refine (HI.out _).mono ?_); rintro e w' ⟨rfl, rfl⟩)
      exact FIN.out _ _ HRx.out HBx.out rfl rfl rfl
    | true =>
      have hk2 := inB_iff.1 hk
      obtain ⟨q, rfl⟩ := Int.eq_ofNat_of_zero_le hk2.1
      have hf := state_facts hs
      have hst := fun W (q1 : Rd W v1 u) (q2 : Rd W v2 d) => stStep_any u d c q (by omega) W v1 v2 q1 q2 hf.1 hf.2.1 hf.2.2.1.1 hf.2.2.1.2
      have hm := mod_step hs q
      have e : stepK u d c (q : Int) = stepO u d c q := by unfold stepK; rw [if_pos ⟨hs, hk2⟩, Int.toNat_natCast]
      rw [e]
      rw [hm.1] at hst
      rw [hk] at hin
      have HG := Lib.hid hg; have HI := Lib.hid hin
      cases ho : (stepO u d c q).isSome with
      | false =>
        have hn : stepO u d c q = none := by
          cases h : stepO u d c q with
          | none => rfl
          | some r => rw [h] at ho; cases ho
        rw [hn]
        rw [ho] at hst
        have HST := Lib.hid hst
        clear hg hs e hin hk hf hst hm ho hn
        show Calls Try.prog 22 #[.agg #[v1, v2, .int .i64 c], .int .i64 (q : Int)] w (GivesSt w [] [] 0 false)
        generalize (modO u d c q).1 = mu at *
        generalize (modO u d c q).2.1 = md at *
        generalize (modO u d c q).2.2 = mc at *
        go_enter Try.func22, Try.ntmps22
        go_wp2_with fail
        refine HG.out.mono ?_
        rintro e w1 ⟨rfl, hb1⟩
        have HRx := Lib.hid (HR.out.below hb1); have HBx := Lib.hid (Below.step HB.out hb1); have HAx := Lib.hid (HA.out.below hb1); have HR1x := Lib.hid (HR1.out.below hb1); have HR2x := Lib.hid (HR2.out.below hb1)
        have a0 := HAx.out.c0; have a1 := HAx.out.c1; have a2 := HAx.out.c2
        clear hb1 k0 k1 k2
        go_wp2_with (first
          | (go_at_call 50; (with_reducible refine (HI.out _).mono ?_); rintro e w' ⟨rfl, rfl⟩)
          | (go_at_call 52; ((with_reducible refine (HST.out _ HR1x.out HR2x.out).mono ?_); rintro e w2 ⟨y1, y2, rfl, po1, po2, hap, hb2⟩; obtain ⟨m1, m2, m3, rfl⟩ := po1.form'; obtain ⟨m4, m5, m6, rfl⟩ := po2.form'; have HRy := Lib.hid ((HRx.out.below hb2).below (Below.alloc1 _ (.cells #[.slice m1 m2 m3, .slice m4 m5 m6, .int .i64 mc] 27))); have HBy := Lib.hid (Below.step (Below.step HBx.out hb2) (Below.alloc1 _ (.cells #[.slice m1 m2 m3, .slice m4 m5 m6, .int .i64 mc] 27))); have r0 := HRy.out.c0; have r1 := HRy.out.c1; have r2 := HRy.out.c2; have f0 := HRy.out.free 0; have f1 := HRy.out.free 1; have f2 := HRy.out.free 2)))
        exact FIN.out _ _ HRy.out HBy.out rfl rfl rfl
      | true =>
        have hmo := hm.2 ho
        rw [ho, hmo] at hst
        have HST := Lib.hid hst
        clear hg hs e hin hk hf hst hm ho hmo
        generalize stU (stepO u d c q) = su at *
        generalize stD (stepO u d c q) = sd at *
        generalize stC (stepO u d c q) = sc at *
        go_enter Try.func22, Try.ntmps22
        go_wp2_with fail
        refine HG.out.mono ?_
        rintro e w1 ⟨rfl, hb1⟩
        have HRx := Lib.hid (HR.out.below hb1); have HBx := Lib.hid (Below.step HB.out hb1); have HAx := Lib.hid (HA.out.below hb1); have HR1x := Lib.hid (HR1.out.below hb1); have HR2x := Lib.hid (HR2.out.below hb1)
        have a0 := HAx.out.c0; have a1 := HAx.out.c1; have a2 := HAx.out.c2
        clear hb1 k0 k1 k2
        go_wp2_with (first
          | (go_at_call 50; (with_reducible refine (HI.out _).mono ?_); rintro e w' ⟨rfl, rfl⟩)
          | (go_at_call 52; ((with_reducible refine (HST.out _ HR1x.out HR2x.out).mono ?_); rintro e w2 ⟨y1, y2, rfl, po1, po2, hap, hb2⟩; obtain ⟨m1, m2, m3, rfl⟩ := po1.form'; obtain ⟨m4, m5, m6, rfl⟩ := po2.form'; have HRy := Lib.hid ((HRx.out.below hb2).below (Below.alloc1 _ (.cells #[.slice m1 m2 m3, .slice m4 m5 m6, .int .i64 sc] 27))); have HBy := Lib.hid (Below.step (Below.step HBx.out hb2) (Below.alloc1 _ (.cells #[.slice m1 m2 m3, .slice m4 m5 m6, .int .i64 sc] 27))); have PO1 := Lib.hid (po1.below (Below.alloc1 _ (.cells #[.slice m1 m2 m3, .slice m4 m5 m6, .int .i64 sc] 27))); have PO2 := Lib.hid (po2.below (Below.alloc1 _ (.cells #[.slice m1 m2 m3, .slice m4 m5 m6, .int .i64 sc] 27))); have PAP := Lib.hid hap; have HLT := Lib.hid HRx.out.lt; have HLE := Lib.hid HBx.out.size; have r0 := HRy.out.c0; have r1 := HRy.out.c1; have r2 := HRy.out.c2; have f0 := HRy.out.free 0; have f1 := HRy.out.free 1; have f2 := HRy.out.free 2; clear po1 po2 hap)))
        have G1 : ∀ k, (Value.slice m1 m2 m3).ownBlock = some k → (some (w.heap.size + 1) : Option Nat) ≠ some k := fun k hk e => by have h5 := (PO1.out.lt k hk).1; have := HLT.out; simp at e; omega
        have G2 : ∀ k, (Value.slice m4 m5 m6).ownBlock = some k → (some (w.heap.size + 1) : Option Nat) ≠ some k := fun k hk e => by have h5 := (PO2.out.lt k hk).1; have := HLT.out; simp at e; omega
        exact bodyPost_ret (results_spss _ _ (w.heap.size + 1) _ _ _ true (((HRy.out.set0 _).set1 _).set2 _) rfl rfl) rfl ⟨_, _, rfl, (PO1.out.grown (grownS_trans (grownS_trans grownS_setCell grownS_setCell) grownS_setCell) G1).mono HLE.out, (PO2.out.grown (grownS_trans (grownS_trans grownS_setCell grownS_setCell) grownS_setCell) G2).mono HLE.out, PAP.out, ((HBy.out.setCell (p := ⟨w.heap.size + 1, 0, none⟩) (Nat.le_succ _) _).setCell (p := ⟨w.heap.size + 1, 1, none⟩) (Nat.le_succ _) _).setCell (p := ⟨w.heap.size + 1, 2, none⟩) (Nat.le_succ _) _⟩

end Go.Proofs.Ytllhdmpnjcemkac
