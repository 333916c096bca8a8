/- StepState in the program. -/
import Derived.Test.YtllhdmpnjcemkacStepG
import Derived.Test.YtllhdmpnjcemkacReadSt
import Derived.Test.YtllhdmpnjcemkacStMirL
namespace Go.Proofs.Ytllhdmpnjcemkac
open Go.RowKit
set_option linter.unusedSimpArgs false
set_option linter.unusedVariables false

/-- the state behind a step, where there is one -/
def stepK (u d : List Int) (c k : Int) : Option (List Int × List Int × Int) := if stateB u d c = true ∧ 0 ≤ k ∧ k ≤ 3 then stepO u d c k.toNat else none
def ok_StepState (u d : List Int) (c k : Int) : Bool := (stepK u d c k).isSome
def res1_StepState (u d : List Int) (c k : Int) : List Int := stU (stepK u d c k)
def res2_StepState (u d : List Int) (c k : Int) : List Int := stD (stepK u d c k)
def res3_StepState (u d : List Int) (c k : Int) : Int := stC (stepK u d c k)
theorem stepO_len {u d : List Int} {c : Int} {k : Nat} : (stU (stepO u d c k)).length ≤ 6 ∧ (stD (stepO u d c k)).length ≤ 6 := by
  unfold stepO
  split
  · simp [stU, stD]
  · split
    · next h => simp only [stU, stD, renU_length, renD_length]; omega
    · simp [stU, stD]
theorem stepK_len (u d : List Int) (c k : Int) : (stU (stepK u d c k)).length ≤ 6 ∧ (stD (stepK u d c k)).length ≤ 6 := by
  unfold stepK
  split
  · exact stepO_len
  · simp [stU, stD]
theorem len_StepState (u d : List Int) (c k : Int) : (res1_StepState u d c k).length ≤ 1000000 ∧ (res2_StepState u d c k).length ≤ 1000000 := by
  have := stepK_len u d c k
  unfold res1_StepState res2_StepState; omega

set_option maxHeartbeats 1000000 in
theorem step_out (u d : List Int) (c k : Int) (w : World) (hk : ¬ (0 ≤ k ∧ k ≤ 3)) :
    Calls Try.prog 56 #[.agg (frC u d c), .int .i64 k] w (FrOut w [] [] 0 false) := by
  have hz := fr_zero (w.alloc (.cells (frC u d c) 77))
  rw [World.size_alloc] at hz
  have B2 := Below.step (Below.alloc1 w (.cells (frC u d c) 77)) (Below.alloc1 _ (.cells #[.int .i64 0, .int .i64 0, .int .i64 0, .int .i64 0, .int .i64 0, .int .i64 0, .int .i64 0, .int .i64 0, .int .i64 0, .int .i64 0, .int .i64 0, .int .i64 0, .int .i64 0, .int .i64 0, .int .i64 0] 77))
  have HZ := Lib.hid hz; have HB := Lib.hid B2
  have q0 : (k == 0) = false := by rw [beq_eq_false_iff_ne]; omega
  have q1 : (k == 1) = false := by rw [beq_eq_false_iff_ne]; omega
  have q2 : (k == 2) = false := by rw [beq_eq_false_iff_ne]; omega
  have q3 : (k == 3) = false := by rw [beq_eq_false_iff_ne]; omega
  clear hz B2 hk
  go_enter Try.func56, Try.ntmps56
  go_wp2_with ((with_reducible refine wp_storeFr0 rfl (.tmp 4) (.tmp 26) rfl (w.heap.size + 1) [] [] 0 (Nat.zero_le _) (Nat.zero_le _) rfl rfl HZ.out ?_); intro w2 hs2 hg2)
  exact bodyPost_ret (results_fstep _ _ (w.heap.size + 1) [] [] 0 false (Nat.zero_le _) (Nat.zero_le _) hs2 rfl rfl) rfl ⟨rfl, HB.out.grown hg2 HB.out.size (by intro k hk; simp at hk; omega)⟩
theorem step_all (u d : List Int) (c k : Int) (w : World) (hs : stateB u d c = true) (wu : Wf u) (wd : Wf d) :
    Calls Try.prog 56 #[.agg (frC u d c), .int .i64 k] w (FrOut w (stU (stepK u d c k)) (stD (stepK u d c k)) (stC (stepK u d c k)) (stepK u d c k).isSome) := by
  by_cases hk : 0 ≤ k ∧ k ≤ 3
  · obtain ⟨q, rfl⟩ := Int.eq_ofNat_of_zero_le hk.1
    have e : stepK u d c (q : Int) = stepO u d c q := by unfold stepK; rw [if_pos ⟨hs, hk⟩, Int.toNat_natCast]
    have f := state_facts hs
    rw [e]
    exact step_any u d c q (by omega) w f.1 f.2.1 f.2.2.1 wu wd
  · have e : stepK u d c k = none := by unfold stepK; rw [if_neg (fun h => hk h.2)]
    rw [e]
    exact step_out u d c k w hk

theorem results_iss (tmps : Array Value) (w : World) (g : Nat) (v1 v2 v3 : Value) (ok : Bool) (hg : Box3 27 w g v1 v2 v3) (h2 : tmps.getD 4 undef = .pointer (some ⟨g, 0, none⟩)) (h3 : tmps.getD 5 undef = .bool ok) :
    (results Try.f24 tmps).run Try.prog w = .ok (.tuple #[.agg #[v1, v2, v3], .bool ok]) w := by
  have h2' : tmps[4]?.getD undef = .pointer (some ⟨g, 0, none⟩) := by simpa using h2
  have h3' : tmps[5]?.getD undef = .bool ok := by simpa using h3
  have hr : Try.f24.results = #[.cell 4 27, .tmp 5] := by kernel_rfl
  simp [results, hr, h2', h3', asAddr, run_loadSt w g v1 v2 v3 hg]

set_option maxHeartbeats 4000000 in
theorem impl_StepState (u d : List Int) (c k : Int) (w : World) (u1 u2 : Value) (h1 : Rd w u1 u) (h2 : Rd w u2 d) (wu : Wf u) (wd : Wf d) :
    Calls Try.prog 24 #[.agg #[u1, u2, .int .i64 c], .int .i64 k] w (GivesSt w (res1_StepState u d c k) (res2_StepState u d c k) (res3_StepState u d c k) (ok_StepState u d c k)) := by
  unfold res1_StepState res2_StepState res3_StepState ok_StepState
  have hA0 := Box3.new 27 w u1 u2 (.int .i64 c)
  have hA := hA0.below (Below.alloc1 _ (.cells #[.slice none 0 0, .slice none 0 0, .int .i64 0] 27))
  have hR := Box3.new 27 (w.alloc (.cells #[u1, u2, .int .i64 c] 27)) (.slice none 0 0) (.slice none 0 0) (.int .i64 0)
  rw [World.size_alloc] at hR
  have B2 := Below.step (Below.alloc1 w (.cells #[u1, u2, .int .i64 c] 27)) (Below.alloc1 _ (.cells #[.slice none 0 0, .slice none 0 0, .int .i64 0] 27))
  have hrs := readState_any u1 u2 u d c _ (h1.below B2) (h2.below B2) wu wd
  have k0 := hA.c0; have k1 := hA.c1; have k2 := hA.c2
  have HB := Lib.hid B2; have HR := Lib.hid hR
  clear hA0 hA hR B2
  cases hs : stateB u d c with
  | false =>
    have e : stepK u d c k = none := by unfold stepK; rw [if_neg (by simp [hs])]
    rw [e]
    rw [hs] at hrs
    simp only [Bool.false_eq_true, if_false, stU, stD, stC, Option.isSome] at hrs ⊢
    have HRS := Lib.hid hrs
    obtain ⟨a1, c1, rfl, _⟩ := h1
    obtain ⟨a2, c2, rfl, _⟩ := h2
    clear hrs hs wu wd e
    go_enter Try.func24, Try.ntmps24
    go_wp2_with (first
      | (go_at_call 60; ((with_reducible refine HRS.out.mono ?_); rintro e w1 ⟨rfl, hb1⟩; have HR1 := Lib.hid (HR.out.below hb1); have HB1 := Lib.hid (Below.step HB.out hb1); clear hb1 k0 k1 k2))
      | ((with_reducible refine wp_storeFr rfl (.tmp 6) (.tmp 12) rfl _ [] [] [] [] 0 0 (Nat.zero_le _) (Nat.zero_le _) (Nat.zero_le _) (Nat.zero_le _) rfl rfl (fr_zero _) ?_); intro w2 hs2 hg2; have HR2 := Lib.hid ((HR1.out.below (Below.alloc1 _ _)).grown hg2 (by have := HR1.out.lt; simp; omega)); have HB2 := Lib.hid ((Below.step HB1.out (Below.alloc1 _ _)).grown hg2 (Nat.le_of_lt (Nat.lt_of_le_of_lt HB1.out.size (fr0_lt w1))) (fun k hk => by have := HB1.out.size; simp at hk; omega)); have r0 := HR2.out.c0; have r1 := HR2.out.c1; have r2 := HR2.out.c2; have f0 := HR2.out.free 0; have f1 := HR2.out.free 1; have f2 := HR2.out.free 2; clear hs2 hg2))
    exact bodyPost_ret (results_iss _ _ (w.heap.size + 1) _ _ _ false (((HR2.out.set0 _).set1 _).set2 _) rfl rfl) rfl ⟨_, _, rfl, Own.nil _ _, Own.nil _ _, ApartS.nil _, ((HB2.out.setCell (p := ⟨w.heap.size + 1, 0, none⟩) (Nat.le_succ _) _).setCell (p := ⟨w.heap.size + 1, 1, none⟩) (Nat.le_succ _) _).setCell (p := ⟨w.heap.size + 1, 2, none⟩) (Nat.le_succ _) _⟩
  | true =>
    rw [hs] at hrs
    simp only [if_true] at hrs
    obtain ⟨l1, l2, _⟩ := state_facts hs
    have hst := fun w => step_all u d c k w hs wu wd
    have hln := stepK_len u d c k
    have hfs := fun w => frState_any (stU (stepK u d c k)) (stD (stepK u d c k)) (stC (stepK u d c k)) w hln.1 hln.2
    have hno : (stepK u d c k).isSome = false → stU (stepK u d c k) = [] ∧ stD (stepK u d c k) = [] ∧ stC (stepK u d c k) = 0 := by
      intro h
      cases hq : stepK u d c k with
      | none => exact ⟨rfl, rfl, rfl⟩
      | some r => rw [hq] at h; cases h
    generalize stU (stepK u d c k) = su at *
    generalize stD (stepK u d c k) = sd at *
    generalize stC (stepK u d c k) = sc at *
    generalize (stepK u d c k).isSome = ok at *
    have HRS := Lib.hid hrs; have HST := Lib.hid hst; have HFS := Lib.hid hfs; have L1 := Lib.hid l1; have L2 := Lib.hid l2; have M1 := Lib.hid hln.1; have M2 := Lib.hid hln.2
    obtain ⟨a1, c1, rfl, _⟩ := h1
    obtain ⟨a2, c2, rfl, _⟩ := h2
    clear hrs hs wu wd hst hfs l1 l2 hln
    cases ok with
    | false =>
      obtain ⟨rfl, rfl, rfl⟩ := hno rfl
      clear hno
      go_enter Try.func24, Try.ntmps24
      go_wp2_with (first
        | (go_at_call 60; ((with_reducible refine HRS.out.mono ?_); rintro e w1 ⟨rfl, hb1⟩; have HR1 := Lib.hid (HR.out.below hb1); have HB1 := Lib.hid (Below.step HB.out hb1); clear hb1 k0 k1 k2))
        | ((with_reducible refine wp_storeFr rfl (.tmp 6) (.tmp 12) rfl _ u d [] [] c 0 L1.out L2.out (Nat.zero_le _) (Nat.zero_le _) rfl rfl (fr_zero _) ?_); intro w2 hs2 hg2; have HS2 := Lib.hid hs2; have HR2 := Lib.hid ((HR1.out.below (Below.alloc1 _ _)).grown hg2 (by have := HR1.out.lt; simp; omega)); have HB2 := Lib.hid ((Below.step HB1.out (Below.alloc1 _ _)).grown hg2 (Nat.le_of_lt (Nat.lt_of_le_of_lt HB1.out.size (fr0_lt w1))) (fun k hk => by have := HB1.out.size; simp at hk; omega)); clear hs2 hg2)
        | (with_reducible refine wp_loadFr rfl (.tmp 6) rfl w1.heap.size u d c L1.out L2.out rfl HS2.out ?_)
        | (go_at_call 56; ((with_reducible refine (HST.out _).mono ?_); rintro e w3 ⟨rfl, hb3⟩; have HR3 := Lib.hid (HR2.out.below hb3); have HB3 := Lib.hid (Below.step HB2.out hb3); clear hb3))
        | ((with_reducible refine wp_storeFr rfl (.tmp 8) (.tmp 21) rfl _ [] [] [] [] 0 0 M1.out M2.out (Nat.zero_le _) (Nat.zero_le _) rfl rfl (fr_zero _) ?_); intro w4 hs4 hg4; have HR4 := Lib.hid ((HR3.out.below (Below.alloc1 _ _)).grown hg4 (by have := HR3.out.lt; simp; omega)); have HB4 := Lib.hid ((Below.step HB3.out (Below.alloc1 _ _)).grown hg4 (Nat.le_of_lt (Nat.lt_of_le_of_lt HB3.out.size (fr0_lt w3))) (fun k hk => by have := HB3.out.size; simp at hk; omega)); have r0 := HR4.out.c0; have r1 := HR4.out.c1; have r2 := HR4.out.c2; have f0 := HR4.out.free 0; have f1 := HR4.out.free 1; have f2 := HR4.out.free 2; clear hs4 hg4))
      exact bodyPost_ret (results_iss _ _ (w.heap.size + 1) _ _ _ false (((HR4.out.set0 _).set1 _).set2 _) rfl rfl) rfl ⟨_, _, rfl, Own.nil _ _, Own.nil _ _, ApartS.nil _, ((HB4.out.setCell (p := ⟨w.heap.size + 1, 0, none⟩) (Nat.le_succ _) _).setCell (p := ⟨w.heap.size + 1, 1, none⟩) (Nat.le_succ _) _).setCell (p := ⟨w.heap.size + 1, 2, none⟩) (Nat.le_succ _) _⟩
    | true =>
      clear hno
      go_enter Try.func24, Try.ntmps24
      go_wp2_with (first
        | (go_at_call 60; ((with_reducible refine HRS.out.mono ?_); rintro e w1 ⟨rfl, hb1⟩; have HR1 := Lib.hid (HR.out.below hb1); have HB1 := Lib.hid (Below.step HB.out hb1); clear hb1 k0 k1 k2))
        | ((with_reducible refine wp_storeFr rfl (.tmp 6) (.tmp 12) rfl _ u d [] [] c 0 L1.out L2.out (Nat.zero_le _) (Nat.zero_le _) rfl rfl (fr_zero _) ?_); intro w2 hs2 hg2; have HS2 := Lib.hid hs2; have HR2 := Lib.hid ((HR1.out.below (Below.alloc1 _ _)).grown hg2 (by have := HR1.out.lt; simp; omega)); have HB2 := Lib.hid ((Below.step HB1.out (Below.alloc1 _ _)).grown hg2 (Nat.le_of_lt (Nat.lt_of_le_of_lt HB1.out.size (fr0_lt w1))) (fun k hk => by have := HB1.out.size; simp at hk; omega)); clear hs2 hg2)
        | (with_reducible refine wp_loadFr rfl (.tmp 6) rfl w1.heap.size u d c L1.out L2.out rfl HS2.out ?_)
        | (go_at_call 56; ((with_reducible refine (HST.out _).mono ?_); rintro e w3 ⟨rfl, hb3⟩; have HR3 := Lib.hid (HR2.out.below hb3); have HB3 := Lib.hid (Below.step HB2.out hb3); clear hb3))
        | ((with_reducible refine wp_storeFr rfl (.tmp 8) (.tmp 21) rfl _ su sd [] [] sc 0 M1.out M2.out (Nat.zero_le _) (Nat.zero_le _) rfl rfl (fr_zero _) ?_); intro w4 hs4 hg4; have HS4 := Lib.hid hs4; have HR4 := Lib.hid ((HR3.out.below (Below.alloc1 _ _)).grown hg4 (by have := HR3.out.lt; simp; omega)); have HB4 := Lib.hid ((Below.step HB3.out (Below.alloc1 _ _)).grown hg4 (Nat.le_of_lt (Nat.lt_of_le_of_lt HB3.out.size (fr0_lt w3))) (fun k hk => by have := HB3.out.size; simp at hk; omega)); clear hs4 hg4)
        | (with_reducible refine wp_loadFr rfl (.tmp 8) rfl w3.heap.size su sd sc M1.out M2.out rfl HS4.out ?_)
        | (go_at_call 58; ((with_reducible refine (HFS.out _).mono ?_); rintro e w5 ⟨x1, x2, rfl, ho1, ho2, hap, hb5⟩; obtain ⟨f1, f2, f3, rfl⟩ := ho1.form'; obtain ⟨f4, f5, f6, rfl⟩ := ho2.form'; have HR5 := Lib.hid (HR4.out.below hb5); have HB5 := Lib.hid (Below.step HB4.out hb5); have HO1 := Lib.hid ho1; have HO2 := Lib.hid ho2; have HAP := Lib.hid hap; have HLT := Lib.hid HR4.out.lt; have r0 := HR5.out.c0; have r1 := HR5.out.c1; have r2 := HR5.out.c2; have g0 := HR5.out.free 0; have g1 := HR5.out.free 1; have g2 := HR5.out.free 2; clear ho1 ho2 hb5 hap)))
      have G1 : ∀ k, (Value.slice f1 f2 f3).ownBlock = some k → (some (w.heap.size + 1) : Option Nat) ≠ some k := fun k hk e => by have h5 := (HO1.out.lt k hk).1; have := HLT.out; simp at e; omega
      have G2 : ∀ k, (Value.slice f4 f5 f6).ownBlock = some k → (some (w.heap.size + 1) : Option Nat) ≠ some k := fun k hk e => by have h5 := (HO2.out.lt k hk).1; have := HLT.out; simp at e; omega
      exact bodyPost_ret (results_iss _ _ (w.heap.size + 1) _ _ _ true (((HR5.out.set0 _).set1 _).set2 _) rfl rfl) rfl ⟨_, _, rfl, (HO1.out.grown (grownS_trans (grownS_trans grownS_setCell grownS_setCell) grownS_setCell) G1).mono HB4.out.size, (HO2.out.grown (grownS_trans (grownS_trans grownS_setCell grownS_setCell) grownS_setCell) G2).mono HB4.out.size, HAP.out, ((HB5.out.setCell (p := ⟨w.heap.size + 1, 0, none⟩) (Nat.le_succ _) _).setCell (p := ⟨w.heap.size + 1, 1, none⟩) (Nat.le_succ _) _).setCell (p := ⟨w.heap.size + 1, 2, none⟩) (Nat.le_succ _) _⟩

end Go.Proofs.Ytllhdmpnjcemkac
