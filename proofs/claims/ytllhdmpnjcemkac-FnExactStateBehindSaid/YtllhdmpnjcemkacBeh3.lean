/- StateBehind in the model. -/
/- StateBehind in the model: no arches; the contract. -/
import Derived.Test.YtllhdmpnjcemkacBeh
import Derived.Test.YtllhdmpnjcemkacStepP
namespace Go.Proofs.Ytllhdmpnjcemkac
open Go.RowKit
set_option linter.unusedSimpArgs false
set_option linter.unusedVariables false

theorem mod_beh {t b : List Int} (gt : goodB t = true) (gb : goodB b = true) (hl : t.length = b.length) {q : Nat} (hq : q < t.length) :
    modO (behS t b q).1 (behS t b q).2.1 (behS t b q).2.2 (kindN t b q) = behS t b (q + 1) := by
  have h := beh_ok gt gb hl q (by omega)
  have hm := (mod_step h.1 (kindN t b q)).2 (by rw [h.2.2.2.2 hq]; rfl)
  rw [hm, h.2.2.2.2 hq]
  rfl
theorem results_sbs (tmps : Array Value) (w : World) (g : Nat) (v1 v2 v3 : Value) (ok : Bool) (hg : Box3 27 w g v1 v2 v3) (h2 : tmps.getD 4 undef = .pointer (some ⟨g, 0, none⟩)) (h3 : tmps.getD 5 undef = .bool ok) :
    (results Try.f13 tmps).run Try.prog w = .ok (.tuple #[.agg #[v1, v2, v3], .bool ok]) w := by
  have h2' : tmps[4]?.getD undef = .pointer (some ⟨g, 0, none⟩) := by simpa using h2
  have h3' : tmps[5]?.getD undef = .bool ok := by simpa using h3
  have hr : Try.f13.results = #[.cell 4 27, .tmp 5] := by kernel_rfl
  simp [results, hr, h2', h3', asAddr, run_loadSt w g v1 v2 v3 hg]
/-- what a round leaves -/
def BehM (w0 : World) (b g6 : Nat) (u d : List Int) (c : Int) (w' : World) : Prop :=
  ∃ (a1 : Option Addr) (n1 c1 : Nat) (a2 : Option Addr) (n2 c2 : Nat), Box3 27 w' g6 (.slice a1 n1 c1) (.slice a2 n2 c2) (.int .i64 c) ∧ Own (b + 1) w' (.slice a1 n1 c1) u ∧ Own (b + 1) w' (.slice a2 n2 c2) d ∧ ApartS (.slice a1 n1 c1) (.slice a2 n2 c2) ∧ Box3 27 w' b (.slice none 0 0) (.slice none 0 0) (.int .i64 0) ∧ Below w0.heap.size w0 w'

set_option maxHeartbeats 4000000 in
set_option maxRecDepth 100000 in
theorem spec_SB_no (t b : List Int) (k : Int) (w : World) (u1 u2 : Value) (h1 : Rd w u1 t) (h2 : Rd w u2 b) (m1 : t.length ≤ 1048576) (m2 : b.length ≤ 1048576) (hno : okSB t b k = false) :
    Calls Try.prog 13 #[.agg #[u1, u2], .int .i64 k] w (GivesSt w [] [] 0 false) := by
  have hA0 := Box2.new 30 w u1 u2
  have hA := hA0.below (Below.alloc1 _ (.cells #[.slice none 0 0, .slice none 0 0, .int .i64 0] 27))
  have hR := Box3.new 27 (w.alloc (.cells #[u1, u2] 30)) (.slice none 0 0) (.slice none 0 0) (.int .i64 0)
  rw [World.size_alloc] at hR
  have B2 := Below.step (Below.alloc1 w (.cells #[u1, u2] 30)) (Below.alloc1 _ (.cells #[.slice none 0 0, .slice none 0 0, .int .i64 0] 27))
  have hg := mePair_any t b _ u1 u2 (h1.below B2) (h2.below B2) m1 m2
  have k0 := hA.c0; have k1 := hA.c1
  have HA := Lib.hid hA; have HB := Lib.hid B2; have HR := Lib.hid hR
  have fin : ∀ (W : World) (a : Act), Box3 27 W (w.heap.size + 1) (.slice none 0 0) (.slice none 0 0) (.int .i64 0) → Below w.heap.size w W → a.defers = [] → a.tmps.getD 4 undef = .pointer (some ⟨w.heap.size + 1, 0, none⟩) → a.tmps.getD 5 undef = .bool false → bodyPost Try.prog Try.f13 (GivesSt w [] [] 0 false) .ret a (((W.setCell ⟨w.heap.size + 1, 0, none⟩ (.slice none 0 0)).setCell ⟨w.heap.size + 1, 1, none⟩ (.slice none 0 0)).setCell ⟨w.heap.size + 1, 2, none⟩ (.int .i64 0)) := fun W a hW hB h0 h4 h5 =>
    bodyPost_ret (results_sbs _ _ (w.heap.size + 1) _ _ _ false (((hW.set0 _).set1 _).set2 _) h4 h5) h0 ⟨_, _, rfl, Own.nil _ _, Own.nil _ _, ApartS.nil _, ((hB.setCell (p := ⟨w.heap.size + 1, 0, none⟩) (Nat.le_succ _) _).setCell (p := ⟨w.heap.size + 1, 1, none⟩) (Nat.le_succ _) _).setCell (p := ⟨w.heap.size + 1, 2, none⟩) (Nat.le_succ _) _⟩
  have FIN := Lib.hid fin
  clear fin hA0 hA hR B2
  cases hp : pairOk t b with
  | false =>
    rw [hp] at hg
    have HG := Lib.hid hg
    clear hg hp hno h1 h2
    go_enter Try.func13, Try.ntmps13
    go_wp2_with fail
    refine HG.out.mono ?_
    rintro e w1 ⟨rfl, hb1⟩
    have HRx := Lib.hid (HR.out.below hb1); have HBx := Lib.hid (Below.step HB.out hb1)
    have r0 := HRx.out.c0; have r1 := HRx.out.c1; have r2 := HRx.out.c2; have f0 := HRx.out.free 0; have f1 := HRx.out.free 1; have f2 := HRx.out.free 2
    clear hb1 k0 k1
    go_wp2
    exact FIN.out _ _ HRx.out HBx.out rfl rfl rfl
  | true =>
    have hk : inB k 0 t.length = false := by
      unfold okSB at hno
      rw [hp, Bool.true_and] at hno
      exact hno
    have hin := fun w => l1In_any k 0 (t.length : Int) w
    rw [hk] at hin
    rw [hp] at hg
    have HG := Lib.hid hg; have HI := Lib.hid hin
    obtain ⟨a1, c1, rfl, _⟩ := h1
    obtain ⟨a2, c2, rfl, _⟩ := h2
    clear hg hp hno hk hin
    generalize t.length = n at *
    go_enter Try.func13, Try.ntmps13
    go_wp2_with fail
    refine HG.out.mono ?_
    rintro e w1 ⟨rfl, hb1⟩
    have HRx := Lib.hid (HR.out.below hb1); have HBx := Lib.hid (Below.step HB.out hb1)
    have j0 := (HA.out.below hb1).c0; have j1 := (HA.out.below hb1).c1
    have r0 := HRx.out.c0; have r1 := HRx.out.c1; have r2 := HRx.out.c2; have f0 := HRx.out.free 0; have f1 := HRx.out.free 1; have f2 := HRx.out.free 2
    clear hb1 k0 k1
    go_wp2_with (go_at_call 50; (with_reducible refine (HI.out _).mono ?_); rintro e w' ⟨rfl, rfl⟩)
    exact FIN.out _ _ HRx.out HBx.out rfl rfl rfl
set_option maxHeartbeats 8000000 in
set_option maxRecDepth 100000 in
theorem spec_SB_y1 (t b : List Int) (m : Nat) (w : World) (u1 u2 : Value) (h1 : Rd w u1 t) (h2 : Rd w u2 b) (m1 : t.length ≤ 1048576) (m2 : b.length ≤ 1048576) (hp : pairOk t b = true) (hm : m ≤ t.length) (hte : t ≠ []) :
    Calls Try.prog 13 #[.agg #[u1, u2], .int .i64 (m : Int)] w (GivesSt w (behS t b m).1 (behS t b m).2.1 (behS t b m).2.2 true) := by
  obtain ⟨q1, q2, q3⟩ := pairOk_facts hp
  have hA0 := Box2.new 30 w u1 u2
  have hA := hA0.below (Below.alloc1 _ (.cells #[.slice none 0 0, .slice none 0 0, .int .i64 0] 27))
  have hR := Box3.new 27 (w.alloc (.cells #[u1, u2] 30)) (.slice none 0 0) (.slice none 0 0) (.int .i64 0)
  rw [World.size_alloc] at hR
  have B2 := Below.step (Below.alloc1 w (.cells #[u1, u2] 30)) (Below.alloc1 _ (.cells #[.slice none 0 0, .slice none 0 0, .int .i64 0] 27))
  have R1 := h1.below B2; have R2 := h2.below B2
  have hg := mePair_any t b _ u1 u2 R1 R2 m1 m2
  rw [hp] at hg
  have hin := fun w => l1In_any (m : Int) 0 (t.length : Int) w
  rw [inB_yes (show (0 : Int) ≤ (m : Int) by omega) (show (m : Int) ≤ (t.length : Int) by omega)] at hin
  have hn12 := good_len' q1
  have HSS := Lib.hid (fun W (x1 : Rd W u1 t) (x2 : Rd W u2 b) => show Calls Try.prog 51 #[.agg #[u1, u2]] W (fun e w' => ∃ g c, e = .returned (.slice (some ⟨g, 0, none⟩) t.length c) ∧ Own W.heap.size w' (.slice (some ⟨g, 0, none⟩) t.length c) (stepsL t b t.length) ∧ t.length ≤ c ∧ c ≤ maxLen ∧ Below W.heap.size W w') from (stSteps_any t b hn12 q3 W u1 u2 x1 x2).mono (by
    rintro e w' ⟨v, rfl, ho, hb⟩
    rcases ho.shape with ⟨rfl, hl⟩ | ⟨g, c, rfl, _, _, g1, g2⟩
    · exact absurd (List.eq_nil_of_length_eq_zero (by have := congrArg List.length hl; simpa [stepsL_length] using this)) hte
    · rw [stepsL_length] at ho g1 ⊢
      exact ⟨g, c, rfl, ho, g1, g2, hb⟩))
  have HST := Lib.hid (fun (i : Nat) (hi : i < m) (W : World) (v1 v2 : Value) (x1 : Rd W v1 (behS t b i).1) (x2 : Rd W v2 (behS t b i).2.1) => show Calls Try.prog 52 #[.agg #[v1, v2, .int .i64 (behS t b i).2.2], .int .i64 (kindN t b i : Int)] W (MadeStO W (behS t b (i + 1)).1 (behS t b (i + 1)).2.1 (behS t b (i + 1)).2.2 (modB (behS t b i).1 (behS t b i).2.1 (behS t b i).2.2 (kindN t b i))) from by
    have h := (beh_ok q1 q2 q3 i (by omega)).1
    have hf := state_facts h
    have := stStep_any (behS t b i).1 (behS t b i).2.1 (behS t b i).2.2 (kindN t b i) (kind_le t b i) W v1 v2 x1 x2 hf.1 hf.2.1 hf.2.2.1.1 hf.2.2.1.2
    rwa [mod_beh q1 q2 q3 (show i < t.length by omega)] at this)
  have HGT := Lib.hid (fun (i : Nat) (hi : i < m) => show (stepsL t b t.length).getD i 0 = (kindN t b i : Int) from by
    rw [← stepV_kind q1 q2 q3 (show i < t.length by omega)]
    simp [stepsL, List.getD, show i < t.length by omega])
  have HLT0 := Lib.hid (stepsL_length t b t.length)
  have k0 := hA.c0; have k1 := hA.c1
  have HA := Lib.hid hA; have HB := Lib.hid B2; have HR := Lib.hid hR; have HR1 := Lib.hid R1; have HR2 := Lib.hid R2; have HG := Lib.hid hg; have HI := Lib.hid hin
  obtain ⟨ax1, cx1, rfl, _⟩ := h1
  obtain ⟨ax2, cx2, rfl, _⟩ := h2
  clear hA0 hA hR B2 R1 R2 hg hin hp q1 q2 q3
  go_enter Try.func13, Try.ntmps13
  go_wp2_with fail
  refine HG.out.mono ?_
  rintro e w1 ⟨rfl, hb1⟩
  have HRx := Lib.hid (HR.out.below hb1); have HBx := Lib.hid (Below.step HB.out hb1); have HAx := Lib.hid (HA.out.below hb1); have HR1x := Lib.hid (HR1.out.below hb1); have HR2x := Lib.hid (HR2.out.below hb1)
  have HNZ : Hid (w.heap.size + 2 ≤ w1.heap.size) := by show _ ≤ _; have := hb1.size; simp only [World.size_alloc] at this; omega
  have HG6 : Hid (w.heap.size ≤ w1.heap.size) := by show _ ≤ _; have := HNZ.out; omega
  have bn := Below.alloc1 w1 (.cells #[.slice none 0 0, .slice none 0 0, .int .i64 0] 27)
  have j0 := HAx.out.c0; have j1 := HAx.out.c1
  have i0 := (HAx.out.below bn).c0; have i1 := (HAx.out.below bn).c1
  have HR1y := Lib.hid (HR1x.out.below bn); have HR2y := Lib.hid (HR2x.out.below bn); have HBN := Lib.hid bn
  clear hb1 k0 k1 bn
  go_wp2_with (first
    | (go_at_call 50; ((with_reducible refine (HI.out _).mono ?_); rintro e w' ⟨rfl, rfl⟩))
    | (go_at_call 51; ((with_reducible refine (HSS.out _ HR1y.out HR2y.out).mono ?_); rintro e w2 ⟨gs, cs, rfl, ho, hc1, hc2, hb2⟩; rw [World.size_alloc] at ho; have HK0 := Lib.hid ho; have H0 : Hid (BehM w (w.heap.size + 1) w1.heap.size (behS t b 0).1 (behS t b 0).2.1 (behS t b 0).2.2 w2) := ⟨none, 0, 0, none, 0, 0, (Box3.new 27 w1 (.slice none 0 0) (.slice none 0 0) (.int .i64 0)).below hb2, Own.nil _ _, Own.nil _ _, ApartS.nil _, (HRx.out.below HBN.out).below hb2, Below.step (Below.step HBx.out HBN.out) hb2⟩; clear ho hb2 i0 i1 j0 j1)))
  go_loopw [29] (fun i wr => ∃ q : Nat, q ≤ m ∧ i = .int .i64 (q : Int) ∧ Hid (BehM w (w.heap.size + 1) w1.heap.size (behS t b q).1 (behS t b q).2.1 (behS t b q).2.2 wr) ∧ Hid (Own (w1.heap.size + 1) wr (.slice (some ⟨gs, 0, none⟩) t.length cs) (stepsL t b t.length))) (fun i _ => m - (intOf i).toNat)
  case atStart => exact ⟨0, by omega, rfl, H0, HK0⟩
  case round =>
    clear H0 HK0
    obtain ⟨q, hq, rfl, HR, HK⟩ := hrel
    generalize wr = wc at *
    by_cases hlt : q < m
    · obtain ⟨a1, n1, c1, a2, n2, c2, hx, po1, po2, pap, hz, hbel⟩ := HR.out
      have hst := fun W q1 q2 => HST.out q hlt W (.slice a1 n1 c1) (.slice a2 n2 c2) q1 q2
      have x0 := hx.c0; have x1 := hx.c1; have x2 := hx.c2
      have hce := HK.out.cellAt q (by rw [HLT0.out]; omega)
      rw [HGT.out q hlt] at hce
      have HX := Lib.hid hx; have P1 := Lib.hid po1; have P2 := Lib.hid po2; have HZ := Lib.hid hz; have HBE := Lib.hid hbel; have HS1 := Lib.hid hst
      clear hx po1 po2 pap hz hbel hst HR
      generalize (behS t b q).1 = u at *
      generalize (behS t b q).2.1 = d at *
      generalize (behS t b q).2.2 = c at *
      generalize hsn : behS t b (q + 1) = sn at HS1
      have HSN := Lib.hid hsn
      clear hsn
      generalize kindN t b q = kd at *
      go_wp2_with (go_at_call 52; ((with_reducible refine (HS1.out _ P1.out.rd P2.out.rd).mono ?_); rintro e w4 ⟨y1, y2, rfl, qo1, qo2, qap, hb4⟩; obtain ⟨m1', m2', m3, rfl⟩ := qo1.form'; obtain ⟨m4, m5, m6, rfl⟩ := qo2.form'; have hb5 : Below wc.heap.size wc (w4.alloc (.cells #[.slice m1' m2' m3, .slice m4 m5 m6, .int .i64 sn.2.2] 27)) := Below.step hb4 (Below.alloc1 _ _); have HX5 := Lib.hid (HX.out.below hb5); have HZ5 := Lib.hid (HZ.out.below hb5); have HK5 := Lib.hid (HK.out.below hb5); have HB5 := Lib.hid (Below.step HBE.out hb5); have Q1 := Lib.hid (qo1.below (Below.alloc1 w4 (.cells #[.slice m1' m2' m3, .slice m4 m5 m6, .int .i64 sn.2.2] 27))); have Q2 := Lib.hid (qo2.below (Below.alloc1 w4 (.cells #[.slice m1' m2' m3, .slice m4 m5 m6, .int .i64 sn.2.2] 27))); have QA := Lib.hid qap; have HLT := Lib.hid HX.out.lt; have hN := Box3.new 27 w4 (.slice m1' m2' m3) (.slice m4 m5 m6) (.int .i64 sn.2.2); have n0 := hN.c0; have n1' := hN.c1; have n2' := hN.c2; have t0 := HX5.out.c0; have t1 := HX5.out.c1; have t2 := HX5.out.c2; have s0 := HX5.out.free 0; have s1 := HX5.out.free 1; have s2 := HX5.out.free 2; clear hb4 hb5 qo1 qo2 qap hN))
      go_roundw
      case rel =>
        have hG : ∀ (k : Nat), wc.heap.size ≤ k → (some w1.heap.size : Option Nat) ≠ some k := fun k hk e => by have := HLT.out; simp at e; omega
        refine ⟨q + 1, by omega, by go_num, ?_⟩
        rw [HSN.out]
        refine ⟨⟨m1', m2', m3, m4, m5, m6, ((HX5.out.set0 _).set1 _).set2 _, (Q1.out.grown (grownS_trans (grownS_trans grownS_setCell grownS_setCell) grownS_setCell) (fun k hk => hG k (Q1.out.lt k hk).1)).mono ?_, (Q2.out.grown (grownS_trans (grownS_trans grownS_setCell grownS_setCell) grownS_setCell) (fun k hk => hG k (Q2.out.lt k hk).1)).mono ?_, QA.out, HZ5.out.grown (grownS_trans (grownS_trans grownS_setCell grownS_setCell) grownS_setCell) ?_, ((HB5.out.setCell (p := ⟨w1.heap.size, 0, none⟩) HG6.out _).setCell (p := ⟨w1.heap.size, 1, none⟩) HG6.out _).setCell (p := ⟨w1.heap.size, 2, none⟩) HG6.out _⟩, HK5.out.grown (grownS_trans (grownS_trans grownS_setCell grownS_setCell) grownS_setCell) ?_⟩
        · have := HLT.out; have := HNZ.out; omega
        · have := HLT.out; have := HNZ.out; omega
        · have := HNZ.out; simp; omega
        · intro k hk e; have := (HK5.out.lt k hk).1; simp at e; omega
      case measure => simp [intOf]; omega
    · obtain rfl : m = q := by omega
      obtain ⟨a1, n1, c1, a2, n2, c2, hx, po1, po2, pap, hz, hbel⟩ := HR.out
      have x0 := hx.c0; have x1 := hx.c1; have x2 := hx.c2
      have r0 := hz.c0; have r1 := hz.c1; have r2 := hz.c2; have f0 := hz.free 0; have f1 := hz.free 1; have f2 := hz.free 2
      have G1 : ∀ k, (Value.slice a1 n1 c1).ownBlock = some k → (some (w.heap.size + 1) : Option Nat) ≠ some k := fun k hk e => by have h5 := (po1.lt k hk).1; simp at e; omega
      have G2 : ∀ k, (Value.slice a2 n2 c2).ownBlock = some k → (some (w.heap.size + 1) : Option Nat) ≠ some k := fun k hk e => by have h5 := (po2.lt k hk).1; simp at e; omega
      have E1 := Lib.hid ((po1.grown (grownS_trans (grownS_trans grownS_setCell grownS_setCell) grownS_setCell) G1 (w' := (((wc.setCell ⟨w.heap.size + 1, 0, none⟩ (.slice a1 n1 c1)).setCell ⟨w.heap.size + 1, 1, none⟩ (.slice a2 n2 c2)).setCell ⟨w.heap.size + 1, 2, none⟩ (.int .i64 (behS t b m).2.2)))).mono (show w.heap.size ≤ w.heap.size + 1 + 1 by omega))
      have E2 := Lib.hid ((po2.grown (grownS_trans (grownS_trans grownS_setCell grownS_setCell) grownS_setCell) G2 (w' := (((wc.setCell ⟨w.heap.size + 1, 0, none⟩ (.slice a1 n1 c1)).setCell ⟨w.heap.size + 1, 1, none⟩ (.slice a2 n2 c2)).setCell ⟨w.heap.size + 1, 2, none⟩ (.int .i64 (behS t b m).2.2)))).mono (show w.heap.size ≤ w.heap.size + 1 + 1 by omega))
      have E3 := Lib.hid (((hz.set0 (.slice a1 n1 c1)).set1 (.slice a2 n2 c2)).set2 (.int .i64 (behS t b m).2.2))
      have E4 := Lib.hid (((hbel.setCell (p := ⟨w.heap.size + 1, 0, none⟩) (Nat.le_succ _) (.slice a1 n1 c1)).setCell (p := ⟨w.heap.size + 1, 1, none⟩) (Nat.le_succ _) (.slice a2 n2 c2)).setCell (p := ⟨w.heap.size + 1, 2, none⟩) (Nat.le_succ _) (.int .i64 (behS t b m).2.2))
      have E5 := Lib.hid pap
      clear G1 G2 po1 po2 pap hx hz hbel HR HK
      go_wp2
      exact bodyPost_ret (results_sbs _ _ (w.heap.size + 1) _ _ _ true E3.out rfl rfl) rfl ⟨_, _, rfl, E1.out, E2.out, E5.out, E4.out⟩

end Go.Proofs.Ytllhdmpnjcemkac

namespace Go.Proofs.Ytllhdmpnjcemkac
open Go.RowKit
set_option linter.unusedSimpArgs false
set_option linter.unusedVariables false

theorem stSteps_nil (w : World) (u1 u2 : Value) (h1 : Rd w u1 []) (h2 : Rd w u2 []) :
    Calls Try.prog 51 #[.agg #[u1, u2]] w (fun e w' => e = .returned (.slice none 0 0) ∧ Below w.heap.size w w') := by
  obtain ⟨a1, c1, rfl, _⟩ := h1
  obtain ⟨a2, c2, rfl, _⟩ := h2
  simp only [List.length_nil]
  have hA := Box2.new 30 w (.slice a1 0 c1) (.slice a2 0 c2)
  have k0 := hA.c0
  have HB := Lib.hid (Below.alloc1 w (.cells #[.slice a1 0 c1, .slice a2 0 c2] 30))
  clear hA
  go_enter Try.func51, Try.ntmps51
  go_wp2
  go_loopw [3, 10] (fun o i wr => o = .slice none 0 0 ∧ i = .int .i64 0 ∧ Below w.heap.size w wr) (fun _ _ _ => 0)
  case atStart => exact ⟨rfl, rfl, HB.out⟩
  case round =>
    obtain ⟨rfl, rfl, hbel⟩ := hrel
    clear HB k0
    generalize wr = wa at *
    have HBE := Lib.hid hbel
    clear hbel
    go_wp2
    go_ret
    exact ⟨rfl, HBE.out⟩
set_option maxHeartbeats 2000000 in
set_option maxRecDepth 100000 in
theorem spec_SB_y0 (t b : List Int) (w : World) (u1 u2 : Value) (h1 : Rd w u1 t) (h2 : Rd w u2 b) (m1 : t.length ≤ 1048576) (m2 : b.length ≤ 1048576) (hp : pairOk t b = true) (hte : t = []) :
    Calls Try.prog 13 #[.agg #[u1, u2], .int .i64 0] w (GivesSt w (behS t b 0).1 (behS t b 0).2.1 (behS t b 0).2.2 true) := by
  obtain ⟨q1, q2, q3⟩ := pairOk_facts hp
  have hA0 := Box2.new 30 w u1 u2
  have hA := hA0.below (Below.alloc1 _ (.cells #[.slice none 0 0, .slice none 0 0, .int .i64 0] 27))
  have hR := Box3.new 27 (w.alloc (.cells #[u1, u2] 30)) (.slice none 0 0) (.slice none 0 0) (.int .i64 0)
  rw [World.size_alloc] at hR
  have B2 := Below.step (Below.alloc1 w (.cells #[u1, u2] 30)) (Below.alloc1 _ (.cells #[.slice none 0 0, .slice none 0 0, .int .i64 0] 27))
  have R1 := h1.below B2; have R2 := h2.below B2
  have hg := mePair_any t b _ u1 u2 R1 R2 m1 m2
  rw [hp] at hg
  have hin := fun w => l1In_any 0 0 (t.length : Int) w
  rw [inB_yes (show (0 : Int) ≤ 0 by omega) (show (0 : Int) ≤ (t.length : Int) by omega)] at hin
  have hn12 := good_len' q1
  have hb0 : b = [] := List.eq_nil_of_length_eq_zero (by rw [← q3, hte]; rfl)
  have HSS := Lib.hid (fun W (x1 : Rd W u1 t) (x2 : Rd W u2 b) => show Calls Try.prog 51 #[.agg #[u1, u2]] W (fun e w' => e = .returned (.slice none 0 0) ∧ Below W.heap.size W w') from (by rw [hte] at x1; rw [hb0] at x2; exact stSteps_nil W u1 u2 x1 x2))
  have k0 := hA.c0; have k1 := hA.c1
  have HA := Lib.hid hA; have HB := Lib.hid B2; have HR := Lib.hid hR; have HR1 := Lib.hid R1; have HR2 := Lib.hid R2; have HG := Lib.hid hg; have HI := Lib.hid hin
  obtain ⟨ax1, cx1, rfl, _⟩ := h1
  obtain ⟨ax2, cx2, rfl, _⟩ := h2
  clear hA0 hA hR B2 R1 R2 hg hin hp q1 q2 q3 hte hb0
  go_enter Try.func13, Try.ntmps13
  go_wp2_with fail
  refine HG.out.mono ?_
  rintro e w1 ⟨rfl, hb1⟩
  have HRx := Lib.hid (HR.out.below hb1); have HBx := Lib.hid (Below.step HB.out hb1); have HAx := Lib.hid (HA.out.below hb1); have HR1x := Lib.hid (HR1.out.below hb1); have HR2x := Lib.hid (HR2.out.below hb1)
  have HNZ : Hid (w.heap.size + 2 ≤ w1.heap.size) := by show _ ≤ _; have := hb1.size; simp only [World.size_alloc] at this; omega
  have HG6 : Hid (w.heap.size ≤ w1.heap.size) := by show _ ≤ _; have := HNZ.out; omega
  have bn := Below.alloc1 w1 (.cells #[.slice none 0 0, .slice none 0 0, .int .i64 0] 27)
  have j0 := HAx.out.c0; have j1 := HAx.out.c1
  have i0 := (HAx.out.below bn).c0; have i1 := (HAx.out.below bn).c1
  have HR1y := Lib.hid (HR1x.out.below bn); have HR2y := Lib.hid (HR2x.out.below bn); have HBN := Lib.hid bn
  clear hb1 k0 k1 bn
  go_wp2_with (first
    | (go_at_call 50; ((with_reducible refine (HI.out _).mono ?_); rintro e w' ⟨rfl, rfl⟩))
    | (go_at_call 51; ((with_reducible refine (HSS.out _ HR1y.out HR2y.out).mono ?_); rintro e w2 ⟨rfl, hb2⟩; have H0 : Hid (BehM w (w.heap.size + 1) w1.heap.size (behS t b 0).1 (behS t b 0).2.1 (behS t b 0).2.2 w2) := ⟨none, 0, 0, none, 0, 0, (Box3.new 27 w1 (.slice none 0 0) (.slice none 0 0) (.int .i64 0)).below hb2, Own.nil _ _, Own.nil _ _, ApartS.nil _, (HRx.out.below HBN.out).below hb2, Below.step (Below.step HBx.out HBN.out) hb2⟩; clear hb2 i0 i1 j0 j1)))
  go_loopw [29] (fun i wr => i = .int .i64 0 ∧ Hid (BehM w (w.heap.size + 1) w1.heap.size (behS t b 0).1 (behS t b 0).2.1 (behS t b 0).2.2 wr)) (fun _ _ => 0)
  case atStart => exact ⟨rfl, H0⟩
  case round =>
    clear H0
    obtain ⟨rfl, HR⟩ := hrel
    generalize wr = wc at *
    obtain ⟨a1, n1, c1, a2, n2, c2, hx, po1, po2, pap, hz, hbel⟩ := HR.out
    have x0 := hx.c0; have x1 := hx.c1; have x2 := hx.c2
    have r0 := hz.c0; have r1 := hz.c1; have r2 := hz.c2; have f0 := hz.free 0; have f1 := hz.free 1; have f2 := hz.free 2
    have G1 : ∀ k, (Value.slice a1 n1 c1).ownBlock = some k → (some (w.heap.size + 1) : Option Nat) ≠ some k := fun k hk e => by have h5 := (po1.lt k hk).1; simp at e; omega
    have G2 : ∀ k, (Value.slice a2 n2 c2).ownBlock = some k → (some (w.heap.size + 1) : Option Nat) ≠ some k := fun k hk e => by have h5 := (po2.lt k hk).1; simp at e; omega
    have E1 := Lib.hid ((po1.grown (grownS_trans (grownS_trans grownS_setCell grownS_setCell) grownS_setCell) G1 (w' := (((wc.setCell ⟨w.heap.size + 1, 0, none⟩ (.slice a1 n1 c1)).setCell ⟨w.heap.size + 1, 1, none⟩ (.slice a2 n2 c2)).setCell ⟨w.heap.size + 1, 2, none⟩ (.int .i64 (behS t b 0).2.2)))).mono (show w.heap.size ≤ w.heap.size + 1 + 1 by omega))
    have E2 := Lib.hid ((po2.grown (grownS_trans (grownS_trans grownS_setCell grownS_setCell) grownS_setCell) G2 (w' := (((wc.setCell ⟨w.heap.size + 1, 0, none⟩ (.slice a1 n1 c1)).setCell ⟨w.heap.size + 1, 1, none⟩ (.slice a2 n2 c2)).setCell ⟨w.heap.size + 1, 2, none⟩ (.int .i64 (behS t b 0).2.2)))).mono (show w.heap.size ≤ w.heap.size + 1 + 1 by omega))
    have E3 := Lib.hid (((hz.set0 (.slice a1 n1 c1)).set1 (.slice a2 n2 c2)).set2 (.int .i64 (behS t b 0).2.2))
    have E4 := Lib.hid (((hbel.setCell (p := ⟨w.heap.size + 1, 0, none⟩) (Nat.le_succ _) (.slice a1 n1 c1)).setCell (p := ⟨w.heap.size + 1, 1, none⟩) (Nat.le_succ _) (.slice a2 n2 c2)).setCell (p := ⟨w.heap.size + 1, 2, none⟩) (Nat.le_succ _) (.int .i64 (behS t b 0).2.2))
    have E5 := Lib.hid pap
    clear G1 G2 po1 po2 pap hx hz hbel HR
    go_wp2
    exact bodyPost_ret (results_sbs _ _ (w.heap.size + 1) _ _ _ true E3.out rfl rfl) rfl ⟨_, _, rfl, E1.out, E2.out, E5.out, E4.out⟩
theorem spec_StateBehind (t b : List Int) (k : Int) (w : World) (u1 u2 : Value) (h1 : Rd w u1 t) (h2 : Rd w u2 b) (m1 : t.length ≤ 1048576) (m2 : b.length ≤ 1048576) :
    Calls Try.prog 13 #[.agg #[u1, u2], .int .i64 k] w (GivesSt w (res1_StateBehind t b k) (res2_StateBehind t b k) (res3_StateBehind t b k) (ok_StateBehind t b k)) := by
  unfold res1_StateBehind res2_StateBehind res3_StateBehind ok_StateBehind behO
  cases h : okSB t b k with
  | false =>
    simp only [Bool.false_eq_true, if_false]
    exact spec_SB_no t b k w u1 u2 h1 h2 m1 m2 h
  | true =>
    obtain ⟨hp, h0, hk⟩ := okSB_facts h
    obtain ⟨m, rfl⟩ : ∃ m : Nat, k = (m : Int) := ⟨k.toNat, by omega⟩
    simp only [if_true, Int.toNat_natCast]
    by_cases ht : t = []
    · obtain rfl : m = 0 := by rw [ht] at hk; simp at hk; omega
      exact spec_SB_y0 t b w u1 u2 h1 h2 m1 m2 hp ht
    · exact spec_SB_y1 t b m w u1 u2 h1 h2 m1 m2 hp (by omega) ht

end Go.Proofs.Ytllhdmpnjcemkac
