/-
  FnExactInsertPair answers true at every input that can be read, and writes into nothing that was there before the call: the program's function answers as the model's does, writes into no argument, and its answer owns its memory.
  Conditions: none but the row's own.
-/
import Derived.Test.YtaeeopdiodaiaaaRows
import Derived.ProofKit
import Derived.OpenShut
import Derived.ShutString
import Derived.ChangeOld
import Derived.Below
import Derived.Lib.SmallJoins
import Derived.Test.YtaeeopdiodaiaaaMeander
import Derived.Deep.RegionHeld3
import Derived.Deep.DeepCutAuto
import Derived.Test.YtaeeopdiodaiaaaInsEnd
namespace Go.Proofs.Ytaeeopdiodaiaaa
open Go.RowKit
set_option linter.unusedSimpArgs false
set_option linter.unusedVariables false

set_option maxHeartbeats 8000000 in
set_option maxRecDepth 100000 in
theorem core_InsertPair (a0 d0 : Option Addr) (n0 c0 p0 q0 : Nat) (t0 b0 : List Int) (x1 : Int) (a2 d2 : Option Addr) (n2 c2 p2 q2 : Nat) (t2 b2 : List Int) (r1 r2 : List Int) (ok : Bool) (w : World) (h0 : Rd w (.slice a0 n0 c0) t0) (g0 : Rd w (.slice d0 p0 q0) b0) (h2 : Rd w (.slice a2 n2 c2) t2) (g2 : Rd w (.slice d2 p2 q2) b2) (hs0 : n0 + p0 + n2 + p2 ≤ 1048576) (hsp : ∀ (w : World) (u0 v0 u2 v2 : Value), Rd w u0 t0 → Rd w v0 b0 → Rd w u2 t2 → Rd w v2 b2 → Calls Try.prog 27 #[.agg #[u0, v0], .int .i64 x1, .agg #[u2, v2]] w (GivesM w r1 r2 ok)) (him : ∀ (w : World) (u0 v0 u2 v2 : Value), Rd w u0 t0 → Rd w v0 b0 → Rd w u2 t2 → Rd w v2 b2 → Calls Try.prog 28 #[.agg #[u0, v0], .int .i64 x1, .agg #[u2, v2]] w (GivesM w r1 r2 ok)) (hr : r1.length ≤ 1000000 ∧ r2.length ≤ 1000000) :
    Calls Try.prog 7 #[.agg #[.slice a0 n0 c0, .slice d0 p0 q0], .int .i64 x1, .agg #[.slice a2 n2 c2, .slice d2 p2 q2]] w (Good w) := by
  have HS := Lib.hid hsp; have HI := Lib.hid him; clear hsp him
  have HR := Lib.hid hr; clear hr
  have ln0 : t0.length = n0 := by obtain ⟨_, _, hv, _⟩ := h0; simp at hv; exact hv.2.1.symm
  have lp0 : b0.length = p0 := by obtain ⟨_, _, hv, _⟩ := g0; simp at hv; exact hv.2.1.symm
  have LN0 : Hid (t0.length ≤ 1048576) := by show _ ≤ _; omega
  have LP0 : Hid (b0.length ≤ 1048576) := by show _ ≤ _; omega
  have A0 := Lib.hid h0; have D0 := Lib.hid g0
  have hn0 : n0 ≤ 1048576 := by omega
  have hp0 : p0 ≤ 1048576 := by omega
  clear ln0 lp0 h0 g0
  have ln2 : t2.length = n2 := by obtain ⟨_, _, hv, _⟩ := h2; simp at hv; exact hv.2.1.symm
  have lp2 : b2.length = p2 := by obtain ⟨_, _, hv, _⟩ := g2; simp at hv; exact hv.2.1.symm
  have LN2 : Hid (t2.length ≤ 1048576) := by show _ ≤ _; omega
  have LP2 : Hid (b2.length ≤ 1048576) := by show _ ≤ _; omega
  have A2 := Lib.hid h2; have D2 := Lib.hid g2
  have hn2 : n2 ≤ 1048576 := by omega
  have hp2 : p2 ≤ 1048576 := by omega
  clear ln2 lp2 h2 g2
  have Z0 : Hid (w.heap.size ≤ w.heap.size) := Nat.le_refl _
  have hba := Below.alloc1 w (.cells #[.slice a0 n0 c0, .slice d0 p0 q0] 24)
  have C : Hid (Below w.heap.size w (w.alloc (.cells #[.slice a0 n0 c0, .slice d0 p0 q0] 24))) := hba
  have HBP0 := Lib.hid (Box2.new 24 w (.slice a0 n0 c0) (.slice d0 p0 q0))
  clear hba
  have Z1 : Hid (w.heap.size < (w.alloc (.cells #[.slice a0 n0 c0, .slice d0 p0 q0] 24)).heap.size) := Lib.hid HBP0.out.lt
  have hba := Below.alloc1 (w.alloc (.cells #[.slice a0 n0 c0, .slice d0 p0 q0] 24)) (.cells #[.slice a2 n2 c2, .slice d2 p2 q2] 24)
  replace HBP0 := Lib.hid (Box2.below HBP0.out hba)
  replace C := Lib.hid (Below.step C.out hba)
  have HBP2 := Lib.hid (by have h := Box2.new 24 ((w.alloc (.cells #[.slice a0 n0 c0, .slice d0 p0 q0] 24))) (.slice a2 n2 c2) (.slice d2 p2 q2); simp only [World.size_alloc] at h; exact h)
  clear hba
  have Z2 : Hid (w.heap.size + 1 < ((w.alloc (.cells #[.slice a0 n0 c0, .slice d0 p0 q0] 24)).alloc (.cells #[.slice a2 n2 c2, .slice d2 p2 q2] 24)).heap.size) := Lib.hid HBP2.out.lt
  go_enter Try.func7, Try.ntmps7
  have e0a := HBP0.out.c0; have e0b := HBP0.out.c1
  have e1a := HBP2.out.c0; have e1b := HBP2.out.c1
  go_wp2_with fail
  clear e0a e0b e1a e1b
  refine (szMeander_ok a0 d0 n0 p0 c0 q0 1048576 _ (by omega) (by omega) (by omega) (by omega) (by omega)).mono ?_
  rintro e w1 ⟨rfl, hb⟩
  replace HBP0 := Lib.hid (Box2.below HBP0.out hb)
  replace HBP2 := Lib.hid (Box2.below HBP2.out hb)
  replace C := Lib.hid (Below.step C.out hb)
  have Z3 := Lib.hid (Below.size hb); clear hb
  have e2a := HBP0.out.c0; have e2b := HBP0.out.c1
  have e3a := HBP2.out.c0; have e3b := HBP2.out.c1
  go_wp2_with fail
  clear e2a e2b e3a e3b
  refine (szMeander_ok a2 d2 n2 p2 c2 q2 (1048576 - n0 - p0) _ (by omega) (by omega) (by omega) (by omega) (by omega)).mono ?_
  rintro e w2 ⟨rfl, hb⟩
  replace HBP0 := Lib.hid (Box2.below HBP0.out hb)
  replace HBP2 := Lib.hid (Box2.below HBP2.out hb)
  replace C := Lib.hid (Below.step C.out hb)
  have Z4 := Lib.hid (Below.size hb); clear hb
  go_upto_region 8 with (fail)
  go_cut [8, 9] (fun s1 s2 wx => ∃ (g : Nat) (v1 v2 : Value), s1 = .pointer (some ⟨g, 0, none⟩) ∧ s2 = .bool ok ∧ Hid (Box2 28 wx g v1 v2 ∧ (w2.heap.size ≤ g ∧ g < wx.heap.size) ∧ Own w2.heap.size wx v1 r1 ∧ Own w2.heap.size wx v2 r2 ∧ ApartV v1 v2) ∧ Hid (Below w2.heap.size w2 wx))
  case first =>
    have l0 := HBP0.out.lt; have l1 := HBP2.out.lt
    go_region_held3 (fun w' => Hid (Below w2.heap.size w2 w') ∧ w'.cell? ⟨w.heap.size, 0, none⟩ = some (.slice a0 n0 c0) ∧ w'.cell? ⟨w.heap.size, 1, none⟩ = some (.slice d0 p0 q0) ∧ w'.cell? ⟨w.heap.size + 1, 0, none⟩ = some (.slice a2 n2 c2) ∧ w'.cell? ⟨w.heap.size + 1, 1, none⟩ = some (.slice d2 p2 q2))
      (first | assumption | exact held_two HBP0.out HBP2.out (Below.refl _ _) | exact held_two HBP0.out HBP2.out (Below.drew (Below.refl _ _)) | exact held_keep (by assumption) (by assumption) | exact held_alloc (by assumption) _ | exact held_two HBP0.out HBP2.out ((Below.setCell (held_out (by assumption)) (by first | exact Nat.le_refl _ | exact zz1 | exact zz2 | exact zz3) _).setCell (by first | exact Nat.le_refl _ | exact zz1 | exact zz2 | exact zz3) _) | exact held_two HBP0.out HBP2.out (Below.step BB3.out (Below.alloc1 _ _)))
      (first
        | (go_at_call_of 13 (Value.agg #[.slice a0 n0 c0, .slice d0 p0 q0]); ((refine (toMeander_ok _ _ t0 b0 _ ((A0.out.below C.out).below (held_out (by assumption))) ((D0.out.below C.out).below (held_out (by assumption))) LN0.out LP0.out).mono ?_); rintro e' wq1 ⟨yv1, yv2, rfl, yo1, yo2, yap, hb1⟩; have zz1 : w2.heap.size ≤ wq1.heap.size := Nat.le_trans (Below.size (held_out (by assumption))) hb1.size; (first | have bx1 := Lib.hid (Box2.below (Box2.new_drew 28 w2 (.slice none 0 0) (.slice none 0 0)) hb1) | skip); have YO1 := Lib.hid yo1; have YO2 := Lib.hid yo2; obtain ⟨y1a, y1n, y1c, rfl⟩ := yo1.form'; obtain ⟨y2a, y2n, y2c, rfl⟩ := yo2.form'; clear yo1 yo2 yap))
        | (go_at_call_of 13 (Value.agg #[.slice a2 n2 c2, .slice d2 p2 q2]); ((refine (toMeander_ok _ _ t2 b2 _ ((A2.out.below C.out).below (held_out (by assumption))) ((D2.out.below C.out).below (held_out (by assumption))) LN2.out LP2.out).mono ?_); rintro e' wq2 ⟨xv1, xv2, rfl, xo1, xo2, xap, hb2⟩; have zz2 : w2.heap.size ≤ wq2.heap.size := Nat.le_trans (Below.size (held_out (by assumption))) hb2.size; (first | have bx2 := Lib.hid (Box2.below bx1.out hb2) | have bx2 := Lib.hid (Box2.below (Box2.new 28 _ _ _) hb2) | skip); (first | have YP1 := Lib.hid (Own.below YO1.out hb2) | have YP1 := Lib.hid (Own.below (Own.below YO1.out (Below.alloc1 _ _)) hb2)); (first | have YP2 := Lib.hid (Own.below YO2.out hb2) | have YP2 := Lib.hid (Own.below (Own.below YO2.out (Below.alloc1 _ _)) hb2)); have XO1 := Lib.hid xo1; have XO2 := Lib.hid xo2; obtain ⟨x1a, x1n, x1c, rfl⟩ := xo1.form'; obtain ⟨x2a, x2n, x2c, rfl⟩ := xo2.form'; clear xo1 xo2 xap))
        | (go_at_call 27; ((first | refine (HS.out _ _ _ _ _ YP1.out.rd YP2.out.rd XO1.out.rd XO2.out.rd).mono ?_ | refine (HS.out _ _ _ _ _ (Own.below YP1.out (Below.alloc1 _ _)).rd (Own.below YP2.out (Below.alloc1 _ _)).rd (Own.below XO1.out (Below.alloc1 _ _)).rd (Own.below XO2.out (Below.alloc1 _ _)).rd).mono ?_); rintro e' wq3 ⟨gv1, gv2, rfl, go1, go2, gap, hb3⟩; have zz3 : w2.heap.size ≤ wq3.heap.size := Nat.le_trans (Below.size (held_out (by assumption))) hb3.size; have BB3 := Lib.hid (Below.step (held_out (by assumption)) hb3); (first | have bx3 := Lib.hid (Box2.below bx2.out hb3) | have bx3 := Lib.hid (Box2.below (Box2.new 28 _ _ _) hb3) | skip); (try (have q0 := bx3.out.c0; have q1 := bx3.out.c1; have q2 := bx3.out.free 0; have q3 := bx3.out.free 1)); have GO1 := Lib.hid go1; have GO2 := Lib.hid go2; have GAP := Lib.hid gap; obtain ⟨g1a, g1n, g1c, rfl⟩ := go1.form'; obtain ⟨g2a, g2n, g2c, rfl⟩ := go2.form'; clear go1 go2 gap)))
    all_goals
      go_wp2_with fail
      go_meet
      first
        | exact ⟨_, _, _, rfl, rfl, met_new BB3.out rfl (by first | exact Nat.le_refl _ | exact zz1 | exact zz2 | exact Nat.le_trans zz2 (Nat.le_of_lt (alloc_lt _ _))) GO1.out GO2.out GAP.out⟩
        | exact ⟨_, _, _, rfl, rfl, met_set bx3.out (by first | exact Nat.le_refl _ | exact zz1 | exact zz2 | exact Nat.le_trans zz2 (Nat.le_of_lt (alloc_lt _ _))) (by first | exact bx2.out.lt | exact alloc_lt _ _) BB3.out rfl (by first | exact Nat.le_refl _ | exact zz1 | exact zz2 | exact Nat.le_trans zz2 (Nat.le_of_lt (alloc_lt _ _))) GO1.out GO2.out GAP.out⟩
  obtain ⟨gvs, vsv1, vsv2, rfl, rfl, vsq, hb0⟩ := hcut
  generalize wc = w3 at *
  have hb := hb0.out; clear hb0
  replace HBP0 := Lib.hid (Box2.below HBP0.out hb)
  replace HBP2 := Lib.hid (Box2.below HBP2.out hb)
  replace C := Lib.hid (Below.step C.out hb)
  have Z5 := Lib.hid (Below.size hb); clear hb
  obtain ⟨vsbx, vsz, vso1, vso2, vsap⟩ := vsq.out; clear vsq
  obtain ⟨vs1a, vs1n, vs1c, rfl⟩ := vso1.form'; obtain ⟨vs2a, vs2n, vs2c, rfl⟩ := vso2.form'
  have Ivs1 := Lib.hid (Own.inn vso1); have Ivs2 := Lib.hid (Own.inn vso2); have APvs := Lib.hid vsap
  have Ovs1 := Lib.hid vso1; have Ovs2 := Lib.hid vso2; clear vso1 vso2 vsap
  have HBvs := Lib.hid vsbx; clear vsbx
  have Z6 := Lib.hid vsz; clear vsz
  have e4a := HBP0.out.c0; have e4b := HBP0.out.c1
  have e5a := HBP2.out.c0; have e5b := HBP2.out.c1
  have e6a := HBvs.out.c0; have e6b := HBvs.out.c1
  go_wp2_with fail
  clear e4a e4b e5a e5b e6a e6b
  refine (toMeander_ok _ _ t0 b0 _ (A0.out.below C.out) (D0.out.below C.out) LN0.out LP0.out).mono ?_
  rintro e w4 ⟨xa0v1, xa0v2, rfl, xa0o1, xa0o2, xa0ap, hb⟩
  replace HBP0 := Lib.hid (Box2.below HBP0.out hb)
  replace HBP2 := Lib.hid (Box2.below HBP2.out hb)
  replace HBvs := Lib.hid (Box2.below HBvs.out hb)
  replace Ovs1 := Lib.hid (Own.below Ovs1.out hb)
  replace Ovs2 := Lib.hid (Own.below Ovs2.out hb)
  replace C := Lib.hid (Below.step C.out hb)
  have Z7 := Lib.hid (Below.size hb); clear hb
  obtain ⟨xa01a, xa01n, xa01c, rfl⟩ := xa0o1.form'; obtain ⟨xa02a, xa02n, xa02c, rfl⟩ := xa0o2.form'
  have Ixa01 := Lib.hid (Own.inn xa0o1); have Ixa02 := Lib.hid (Own.inn xa0o2); have APxa0 := Lib.hid xa0ap
  have Oxa01 := Lib.hid xa0o1; have Oxa02 := Lib.hid xa0o2; clear xa0o1 xa0o2 xa0ap
  have hba := Below.alloc1 w4 (.cells #[.slice xa01a xa01n xa01c, .slice xa02a xa02n xa02c] 28)
  replace HBP0 := Lib.hid (Box2.below HBP0.out hba)
  replace HBP2 := Lib.hid (Box2.below HBP2.out hba)
  replace HBvs := Lib.hid (Box2.below HBvs.out hba)
  replace Ovs1 := Lib.hid (Own.below Ovs1.out hba)
  replace Ovs2 := Lib.hid (Own.below Ovs2.out hba)
  replace Oxa01 := Lib.hid (Own.below Oxa01.out hba)
  replace Oxa02 := Lib.hid (Own.below Oxa02.out hba)
  replace C := Lib.hid (Below.step C.out hba)
  have HBxa0 := Lib.hid (Box2.new 28 w4 (.slice xa01a xa01n xa01c) (.slice xa02a xa02n xa02c))
  clear hba
  have Z8 : Hid (w4.heap.size < (w4.alloc (.cells #[.slice xa01a xa01n xa01c, .slice xa02a xa02n xa02c] 28)).heap.size) := Lib.hid HBxa0.out.lt
  have e7a := HBP0.out.c0; have e7b := HBP0.out.c1
  have e8a := HBP2.out.c0; have e8b := HBP2.out.c1
  have e9a := HBvs.out.c0; have e9b := HBvs.out.c1
  have e10a := HBxa0.out.c0; have e10b := HBxa0.out.c1
  go_wp2_with fail
  clear e7a e7b e8a e8b e9a e9b e10a e10b
  refine (toMeander_ok _ _ t2 b2 _ (A2.out.below C.out) (D2.out.below C.out) LN2.out LP2.out).mono ?_
  rintro e w5 ⟨xa2v1, xa2v2, rfl, xa2o1, xa2o2, xa2ap, hb⟩
  replace HBP0 := Lib.hid (Box2.below HBP0.out hb)
  replace HBP2 := Lib.hid (Box2.below HBP2.out hb)
  replace HBvs := Lib.hid (Box2.below HBvs.out hb)
  replace HBxa0 := Lib.hid (Box2.below HBxa0.out hb)
  replace Ovs1 := Lib.hid (Own.below Ovs1.out hb)
  replace Ovs2 := Lib.hid (Own.below Ovs2.out hb)
  replace Oxa01 := Lib.hid (Own.below Oxa01.out hb)
  replace Oxa02 := Lib.hid (Own.below Oxa02.out hb)
  replace C := Lib.hid (Below.step C.out hb)
  have Z9 := Lib.hid (Below.size hb); clear hb
  obtain ⟨xa21a, xa21n, xa21c, rfl⟩ := xa2o1.form'; obtain ⟨xa22a, xa22n, xa22c, rfl⟩ := xa2o2.form'
  have Ixa21 := Lib.hid (Own.inn xa2o1); have Ixa22 := Lib.hid (Own.inn xa2o2); have APxa2 := Lib.hid xa2ap
  have Oxa21 := Lib.hid xa2o1; have Oxa22 := Lib.hid xa2o2; clear xa2o1 xa2o2 xa2ap
  have hba := Below.alloc1 w5 (.cells #[.slice xa21a xa21n xa21c, .slice xa22a xa22n xa22c] 28)
  replace HBP0 := Lib.hid (Box2.below HBP0.out hba)
  replace HBP2 := Lib.hid (Box2.below HBP2.out hba)
  replace HBvs := Lib.hid (Box2.below HBvs.out hba)
  replace HBxa0 := Lib.hid (Box2.below HBxa0.out hba)
  replace Ovs1 := Lib.hid (Own.below Ovs1.out hba)
  replace Ovs2 := Lib.hid (Own.below Ovs2.out hba)
  replace Oxa01 := Lib.hid (Own.below Oxa01.out hba)
  replace Oxa02 := Lib.hid (Own.below Oxa02.out hba)
  replace Oxa21 := Lib.hid (Own.below Oxa21.out hba)
  replace Oxa22 := Lib.hid (Own.below Oxa22.out hba)
  replace C := Lib.hid (Below.step C.out hba)
  have HBxa2 := Lib.hid (Box2.new 28 w5 (.slice xa21a xa21n xa21c) (.slice xa22a xa22n xa22c))
  clear hba
  have Z10 : Hid (w5.heap.size < (w5.alloc (.cells #[.slice xa21a xa21n xa21c, .slice xa22a xa22n xa22c] 28)).heap.size) := Lib.hid HBxa2.out.lt
  have e11a := HBP0.out.c0; have e11b := HBP0.out.c1
  have e12a := HBP2.out.c0; have e12b := HBP2.out.c1
  have e13a := HBvs.out.c0; have e13b := HBvs.out.c1
  have e14a := HBxa0.out.c0; have e14b := HBxa0.out.c1
  have e15a := HBxa2.out.c0; have e15b := HBxa2.out.c1
  go_wp2_with fail
  clear e11a e11b e12a e12b e13a e13b e14a e14b e15a e15b
  refine (HI.out _ _ _ _ _ Oxa01.out.rd Oxa02.out.rd Oxa21.out.rd Oxa22.out.rd).mono ?_
  rintro e w6 ⟨vgv1, vgv2, rfl, vgo1, vgo2, vgap, hb⟩
  replace HBP0 := Lib.hid (Box2.below HBP0.out hb)
  replace HBP2 := Lib.hid (Box2.below HBP2.out hb)
  replace HBvs := Lib.hid (Box2.below HBvs.out hb)
  replace HBxa0 := Lib.hid (Box2.below HBxa0.out hb)
  replace HBxa2 := Lib.hid (Box2.below HBxa2.out hb)
  replace Ovs1 := Lib.hid (Own.below Ovs1.out hb)
  replace Ovs2 := Lib.hid (Own.below Ovs2.out hb)
  replace Oxa01 := Lib.hid (Own.below Oxa01.out hb)
  replace Oxa02 := Lib.hid (Own.below Oxa02.out hb)
  replace Oxa21 := Lib.hid (Own.below Oxa21.out hb)
  replace Oxa22 := Lib.hid (Own.below Oxa22.out hb)
  replace C := Lib.hid (Below.step C.out hb)
  have Z11 := Lib.hid (Below.size hb); clear hb
  obtain ⟨vg1a, vg1n, vg1c, rfl⟩ := vgo1.form'; obtain ⟨vg2a, vg2n, vg2c, rfl⟩ := vgo2.form'
  have Ivg1 := Lib.hid (Own.inn vgo1); have Ivg2 := Lib.hid (Own.inn vgo2); have APvg := Lib.hid vgap
  have Ovg1 := Lib.hid vgo1; have Ovg2 := Lib.hid vgo2; clear vgo1 vgo2 vgap
  have hba := Below.alloc1 w6 (.cells #[.slice vg1a vg1n vg1c, .slice vg2a vg2n vg2c] 28)
  replace HBP0 := Lib.hid (Box2.below HBP0.out hba)
  replace HBP2 := Lib.hid (Box2.below HBP2.out hba)
  replace HBvs := Lib.hid (Box2.below HBvs.out hba)
  replace HBxa0 := Lib.hid (Box2.below HBxa0.out hba)
  replace HBxa2 := Lib.hid (Box2.below HBxa2.out hba)
  replace Ovs1 := Lib.hid (Own.below Ovs1.out hba)
  replace Ovs2 := Lib.hid (Own.below Ovs2.out hba)
  replace Oxa01 := Lib.hid (Own.below Oxa01.out hba)
  replace Oxa02 := Lib.hid (Own.below Oxa02.out hba)
  replace Oxa21 := Lib.hid (Own.below Oxa21.out hba)
  replace Oxa22 := Lib.hid (Own.below Oxa22.out hba)
  replace Ovg1 := Lib.hid (Own.below Ovg1.out hba)
  replace Ovg2 := Lib.hid (Own.below Ovg2.out hba)
  replace C := Lib.hid (Below.step C.out hba)
  have HBvg := Lib.hid (Box2.new 28 w6 (.slice vg1a vg1n vg1c) (.slice vg2a vg2n vg2c))
  clear hba
  have Z12 : Hid (w6.heap.size < (w6.alloc (.cells #[.slice vg1a vg1n vg1c, .slice vg2a vg2n vg2c] 28)).heap.size) := Lib.hid HBvg.out.lt
  have e16a := HBP0.out.c0; have e16b := HBP0.out.c1
  have e17a := HBP2.out.c0; have e17b := HBP2.out.c1
  have e18a := HBvs.out.c0; have e18b := HBvs.out.c1
  have e19a := HBxa0.out.c0; have e19b := HBxa0.out.c1
  have e20a := HBxa2.out.c0; have e20b := HBxa2.out.c1
  have e21a := HBvg.out.c0; have e21b := HBvg.out.c1
  go_wp2_with fail
  clear e16a e16b e17a e17b e18a e18b e19a e19b e20a e20b e21a e21b
  refine (eqMeander_ok _ _ _ _ r1 r2 _ Ovg1.out.rd Ovg2.out.rd Ovs1.out.rd Ovs2.out.rd).mono ?_
  rintro e w7 ⟨rfl, hb⟩
  replace HBP0 := Lib.hid (Box2.below HBP0.out hb)
  replace HBP2 := Lib.hid (Box2.below HBP2.out hb)
  replace HBvs := Lib.hid (Box2.below HBvs.out hb)
  replace HBxa0 := Lib.hid (Box2.below HBxa0.out hb)
  replace HBxa2 := Lib.hid (Box2.below HBxa2.out hb)
  replace HBvg := Lib.hid (Box2.below HBvg.out hb)
  replace Ovs1 := Lib.hid (Own.below Ovs1.out hb)
  replace Ovs2 := Lib.hid (Own.below Ovs2.out hb)
  replace Oxa01 := Lib.hid (Own.below Oxa01.out hb)
  replace Oxa02 := Lib.hid (Own.below Oxa02.out hb)
  replace Oxa21 := Lib.hid (Own.below Oxa21.out hb)
  replace Oxa22 := Lib.hid (Own.below Oxa22.out hb)
  replace Ovg1 := Lib.hid (Own.below Ovg1.out hb)
  replace Ovg2 := Lib.hid (Own.below Ovg2.out hb)
  replace C := Lib.hid (Below.step C.out hb)
  have Z13 := Lib.hid (Below.size hb); clear hb
  go_wp2_with fail
  go_region_held3 (fun w' => Hid (Below w7.heap.size w7 w') ∧ w'.cell? ⟨w4.heap.size, 0, none⟩ = some (.slice xa01a xa01n xa01c) ∧ w'.cell? ⟨w4.heap.size, 1, none⟩ = some (.slice xa02a xa02n xa02c) ∧ w'.cell? ⟨w.heap.size, 0, none⟩ = some (.slice a0 n0 c0) ∧ w'.cell? ⟨w.heap.size, 1, none⟩ = some (.slice d0 p0 q0))
    (first | assumption | exact held_start HBxa0.out HBP0.out | exact held_keep (by assumption) (by assumption))
    (first
      | (go_at_call 13; ((refine (toMeander_ok _ _ t0 b0 _ ((A0.out.below C.out).below (Below.drew (Below.refl _ _))) ((D0.out.below C.out).below (Below.drew (Below.refl _ _))) LN0.out LP0.out).mono ?_); rintro e' wq ⟨yv1, yv2, rfl, yo1, yo2, yap, hb'⟩; have YB : Hid (Below w7.heap.size w7 wq) := ((Below.refl _ w7).drew).trans hb'; have YO1 := Lib.hid yo1; have YO2 := Lib.hid yo2; obtain ⟨y1a, y1n, y1c, rfl⟩ := yo1.form'; obtain ⟨y2a, y2n, y2c, rfl⟩ := yo2.form'))
      | (go_at_call 15; ((refine (eqMeander_ok _ _ _ _ t0 b0 _ (Own.below Oxa01.out YB.out).rd (Own.below Oxa02.out YB.out).rd YO1.out.rd YO2.out.rd).mono ?_); rintro e' w' ⟨rfl, hb'⟩)))
  have hb : Below w7.heap.size w7 w' := held_out (by assumption)
  generalize w' = w8 at *
  replace HBP0 := Lib.hid (Box2.below HBP0.out hb)
  replace HBP2 := Lib.hid (Box2.below HBP2.out hb)
  replace HBvs := Lib.hid (Box2.below HBvs.out hb)
  replace HBxa0 := Lib.hid (Box2.below HBxa0.out hb)
  replace HBxa2 := Lib.hid (Box2.below HBxa2.out hb)
  replace HBvg := Lib.hid (Box2.below HBvg.out hb)
  replace Ovs1 := Lib.hid (Own.below Ovs1.out hb)
  replace Ovs2 := Lib.hid (Own.below Ovs2.out hb)
  replace Oxa01 := Lib.hid (Own.below Oxa01.out hb)
  replace Oxa02 := Lib.hid (Own.below Oxa02.out hb)
  replace Oxa21 := Lib.hid (Own.below Oxa21.out hb)
  replace Oxa22 := Lib.hid (Own.below Oxa22.out hb)
  replace Ovg1 := Lib.hid (Own.below Ovg1.out hb)
  replace Ovg2 := Lib.hid (Own.below Ovg2.out hb)
  replace C := Lib.hid (Below.step C.out hb)
  have Z14 := Lib.hid (Below.size hb); clear hb
  have yclear : True := trivial
  go_wp2_with fail
  go_region_held3 (fun w' => Hid (Below w8.heap.size w8 w') ∧ w'.cell? ⟨w5.heap.size, 0, none⟩ = some (.slice xa21a xa21n xa21c) ∧ w'.cell? ⟨w5.heap.size, 1, none⟩ = some (.slice xa22a xa22n xa22c) ∧ w'.cell? ⟨w.heap.size + 1, 0, none⟩ = some (.slice a2 n2 c2) ∧ w'.cell? ⟨w.heap.size + 1, 1, none⟩ = some (.slice d2 p2 q2))
    (first | assumption | exact held_start HBxa2.out HBP2.out | exact held_keep (by assumption) (by assumption))
    (first
      | (go_at_call 13; ((refine (toMeander_ok _ _ t2 b2 _ ((A2.out.below C.out).below (Below.drew (Below.refl _ _))) ((D2.out.below C.out).below (Below.drew (Below.refl _ _))) LN2.out LP2.out).mono ?_); rintro e' wq ⟨yv1, yv2, rfl, yo1, yo2, yap, hb'⟩; have YB : Hid (Below w8.heap.size w8 wq) := ((Below.refl _ w8).drew).trans hb'; have YO1 := Lib.hid yo1; have YO2 := Lib.hid yo2; obtain ⟨y1a, y1n, y1c, rfl⟩ := yo1.form'; obtain ⟨y2a, y2n, y2c, rfl⟩ := yo2.form'))
      | (go_at_call 15; ((refine (eqMeander_ok _ _ _ _ t2 b2 _ (Own.below Oxa21.out YB.out).rd (Own.below Oxa22.out YB.out).rd YO1.out.rd YO2.out.rd).mono ?_); rintro e' w' ⟨rfl, hb'⟩)))
  have hb : Below w8.heap.size w8 w' := held_out (by assumption)
  generalize w' = w9 at *
  replace HBP0 := Lib.hid (Box2.below HBP0.out hb)
  replace HBP2 := Lib.hid (Box2.below HBP2.out hb)
  replace HBvs := Lib.hid (Box2.below HBvs.out hb)
  replace HBxa0 := Lib.hid (Box2.below HBxa0.out hb)
  replace HBxa2 := Lib.hid (Box2.below HBxa2.out hb)
  replace HBvg := Lib.hid (Box2.below HBvg.out hb)
  replace Ovs1 := Lib.hid (Own.below Ovs1.out hb)
  replace Ovs2 := Lib.hid (Own.below Ovs2.out hb)
  replace Oxa01 := Lib.hid (Own.below Oxa01.out hb)
  replace Oxa02 := Lib.hid (Own.below Oxa02.out hb)
  replace Oxa21 := Lib.hid (Own.below Oxa21.out hb)
  replace Oxa22 := Lib.hid (Own.below Oxa22.out hb)
  replace Ovg1 := Lib.hid (Own.below Ovg1.out hb)
  replace Ovg2 := Lib.hid (Own.below Ovg2.out hb)
  replace C := Lib.hid (Below.step C.out hb)
  have Z15 := Lib.hid (Below.size hb); clear hb
  have yclear : True := trivial
  have e22a := HBP0.out.c0; have e22b := HBP0.out.c1
  have e23a := HBP2.out.c0; have e23b := HBP2.out.c1
  have e24a := HBvs.out.c0; have e24b := HBvs.out.c1
  have e25a := HBxa0.out.c0; have e25b := HBxa0.out.c1
  have e26a := HBxa2.out.c0; have e26b := HBxa2.out.c1
  have e27a := HBvg.out.c0; have e27b := HBvg.out.c1
  go_wp2_with fail
  clear e22a e22b e23a e23b e24a e24b e25a e25b e26a e26b e27a e27b
  refine (markMeander_any w3.heap.size w4.heap.size _ _ t0 b0 1 _ Oxa01.out Oxa02.out Ixa01.out Ixa02.out (by have := Z0.out; have := Z1.out; have := Z2.out; have := Z3.out; have := Z4.out; have := Z5.out; have := Z6.out; have := Z7.out; have := Z8.out; have := Z9.out; have := Z10.out; have := Z11.out; have := Z12.out; have := Z13.out; have := Z14.out; have := Z15.out; omega) APxa0.out (by omega) (by have := LN0.out; have := LP0.out; have := LN2.out; have := LP2.out; have := HR.out.1; have := HR.out.2; omega) (by have := LN0.out; have := LP0.out; have := LN2.out; have := LP2.out; have := HR.out.1; have := HR.out.2; omega) (by have := LN0.out; have := LP0.out; have := LN2.out; have := LP2.out; have := HR.out.1; have := HR.out.2; omega)).mono ?_
  rintro e w10 ⟨rfl, ho1, ho2, hg⟩
  replace C := Lib.hid (Within.below C.out hg (by have := Z0.out; have := Z1.out; have := Z2.out; have := Z3.out; have := Z4.out; have := Z5.out; have := Z6.out; have := Z7.out; have := Z8.out; have := Z9.out; have := Z10.out; have := Z11.out; have := Z12.out; have := Z13.out; have := Z14.out; have := Z15.out; (try simp only [World.size_alloc] at *); omega) (by have := Z0.out; have := Z1.out; have := Z2.out; have := Z3.out; have := Z4.out; have := Z5.out; have := Z6.out; have := Z7.out; have := Z8.out; have := Z9.out; have := Z10.out; have := Z11.out; have := Z12.out; have := Z13.out; have := Z14.out; have := Z15.out; (try simp only [World.size_alloc] at *); omega))
  replace HBP0 := Lib.hid (Box2.within HBP0.out hg (by have := Z0.out; have := Z1.out; have := Z2.out; have := Z3.out; have := Z4.out; have := Z5.out; have := Z6.out; have := Z7.out; have := Z8.out; have := Z9.out; have := Z10.out; have := Z11.out; have := Z12.out; have := Z13.out; have := Z14.out; have := Z15.out; (try simp only [World.size_alloc] at *); omega))
  replace HBP2 := Lib.hid (Box2.within HBP2.out hg (by have := Z0.out; have := Z1.out; have := Z2.out; have := Z3.out; have := Z4.out; have := Z5.out; have := Z6.out; have := Z7.out; have := Z8.out; have := Z9.out; have := Z10.out; have := Z11.out; have := Z12.out; have := Z13.out; have := Z14.out; have := Z15.out; (try simp only [World.size_alloc] at *); omega))
  replace HBvs := Lib.hid (Box2.within HBvs.out hg (by have := Z0.out; have := Z1.out; have := Z2.out; have := Z3.out; have := Z4.out; have := Z5.out; have := Z6.out; have := Z7.out; have := Z8.out; have := Z9.out; have := Z10.out; have := Z11.out; have := Z12.out; have := Z13.out; have := Z14.out; have := Z15.out; (try simp only [World.size_alloc] at *); omega))
  replace HBxa0 := Lib.hid (Box2.within HBxa0.out hg (by have := Z0.out; have := Z1.out; have := Z2.out; have := Z3.out; have := Z4.out; have := Z5.out; have := Z6.out; have := Z7.out; have := Z8.out; have := Z9.out; have := Z10.out; have := Z11.out; have := Z12.out; have := Z13.out; have := Z14.out; have := Z15.out; (try simp only [World.size_alloc] at *); omega))
  replace HBxa2 := Lib.hid (Box2.within HBxa2.out hg (by have := Z0.out; have := Z1.out; have := Z2.out; have := Z3.out; have := Z4.out; have := Z5.out; have := Z6.out; have := Z7.out; have := Z8.out; have := Z9.out; have := Z10.out; have := Z11.out; have := Z12.out; have := Z13.out; have := Z14.out; have := Z15.out; (try simp only [World.size_alloc] at *); omega))
  replace HBvg := Lib.hid (Box2.within HBvg.out hg (by have := Z0.out; have := Z1.out; have := Z2.out; have := Z3.out; have := Z4.out; have := Z5.out; have := Z6.out; have := Z7.out; have := Z8.out; have := Z9.out; have := Z10.out; have := Z11.out; have := Z12.out; have := Z13.out; have := Z14.out; have := Z15.out; (try simp only [World.size_alloc] at *); omega))
  replace Ovs1 := Lib.hid (Own.within Ovs1.out hg Ivs1.out (by have := Z0.out; have := Z1.out; have := Z2.out; have := Z3.out; have := Z4.out; have := Z5.out; have := Z6.out; have := Z7.out; have := Z8.out; have := Z9.out; have := Z10.out; have := Z11.out; have := Z12.out; have := Z13.out; have := Z14.out; have := Z15.out; (try simp only [World.size_alloc] at *); omega))
  replace Ovs2 := Lib.hid (Own.within Ovs2.out hg Ivs2.out (by have := Z0.out; have := Z1.out; have := Z2.out; have := Z3.out; have := Z4.out; have := Z5.out; have := Z6.out; have := Z7.out; have := Z8.out; have := Z9.out; have := Z10.out; have := Z11.out; have := Z12.out; have := Z13.out; have := Z14.out; have := Z15.out; (try simp only [World.size_alloc] at *); omega))
  replace Oxa21 := Lib.hid (Own.within Oxa21.out hg Ixa21.out (by have := Z0.out; have := Z1.out; have := Z2.out; have := Z3.out; have := Z4.out; have := Z5.out; have := Z6.out; have := Z7.out; have := Z8.out; have := Z9.out; have := Z10.out; have := Z11.out; have := Z12.out; have := Z13.out; have := Z14.out; have := Z15.out; (try simp only [World.size_alloc] at *); omega))
  replace Oxa22 := Lib.hid (Own.within Oxa22.out hg Ixa22.out (by have := Z0.out; have := Z1.out; have := Z2.out; have := Z3.out; have := Z4.out; have := Z5.out; have := Z6.out; have := Z7.out; have := Z8.out; have := Z9.out; have := Z10.out; have := Z11.out; have := Z12.out; have := Z13.out; have := Z14.out; have := Z15.out; (try simp only [World.size_alloc] at *); omega))
  replace Ovg1 := Lib.hid (Own.within Ovg1.out hg Ivg1.out (by have := Z0.out; have := Z1.out; have := Z2.out; have := Z3.out; have := Z4.out; have := Z5.out; have := Z6.out; have := Z7.out; have := Z8.out; have := Z9.out; have := Z10.out; have := Z11.out; have := Z12.out; have := Z13.out; have := Z14.out; have := Z15.out; (try simp only [World.size_alloc] at *); omega))
  replace Ovg2 := Lib.hid (Own.within Ovg2.out hg Ivg2.out (by have := Z0.out; have := Z1.out; have := Z2.out; have := Z3.out; have := Z4.out; have := Z5.out; have := Z6.out; have := Z7.out; have := Z8.out; have := Z9.out; have := Z10.out; have := Z11.out; have := Z12.out; have := Z13.out; have := Z14.out; have := Z15.out; (try simp only [World.size_alloc] at *); omega))
  have Z16 := Lib.hid hg.size; clear hg
  replace Oxa01 := Lib.hid ho1; replace Oxa02 := Lib.hid ho2; clear ho1 ho2
  have e28a := HBP0.out.c0; have e28b := HBP0.out.c1
  have e29a := HBP2.out.c0; have e29b := HBP2.out.c1
  have e30a := HBvs.out.c0; have e30b := HBvs.out.c1
  have e31a := HBxa0.out.c0; have e31b := HBxa0.out.c1
  have e32a := HBxa2.out.c0; have e32b := HBxa2.out.c1
  have e33a := HBvg.out.c0; have e33b := HBvg.out.c1
  go_wp2_with fail
  clear e28a e28b e29a e29b e30a e30b e31a e31b e32a e32b e33a e33b
  refine (markMeander_any (w4.alloc (.cells #[.slice xa01a xa01n xa01c, .slice xa02a xa02n xa02c] 28)).heap.size w5.heap.size _ _ t2 b2 (1 + (t0.length : Int) + (b0.length : Int)) _ Oxa21.out Oxa22.out Ixa21.out Ixa22.out (by have := Z0.out; have := Z1.out; have := Z2.out; have := Z3.out; have := Z4.out; have := Z5.out; have := Z6.out; have := Z7.out; have := Z8.out; have := Z9.out; have := Z10.out; have := Z11.out; have := Z12.out; have := Z13.out; have := Z14.out; have := Z15.out; have := Z16.out; omega) APxa2.out (by omega) (by have := LN0.out; have := LP0.out; have := LN2.out; have := LP2.out; have := HR.out.1; have := HR.out.2; omega) (by have := LN0.out; have := LP0.out; have := LN2.out; have := LP2.out; have := HR.out.1; have := HR.out.2; omega) (by have := LN0.out; have := LP0.out; have := LN2.out; have := LP2.out; have := HR.out.1; have := HR.out.2; omega)).mono ?_
  rintro e w11 ⟨rfl, ho1, ho2, hg⟩
  replace C := Lib.hid (Within.below C.out hg (by have := Z0.out; have := Z1.out; have := Z2.out; have := Z3.out; have := Z4.out; have := Z5.out; have := Z6.out; have := Z7.out; have := Z8.out; have := Z9.out; have := Z10.out; have := Z11.out; have := Z12.out; have := Z13.out; have := Z14.out; have := Z15.out; have := Z16.out; (try simp only [World.size_alloc] at *); omega) (by have := Z0.out; have := Z1.out; have := Z2.out; have := Z3.out; have := Z4.out; have := Z5.out; have := Z6.out; have := Z7.out; have := Z8.out; have := Z9.out; have := Z10.out; have := Z11.out; have := Z12.out; have := Z13.out; have := Z14.out; have := Z15.out; have := Z16.out; (try simp only [World.size_alloc] at *); omega))
  replace HBP0 := Lib.hid (Box2.within HBP0.out hg (by have := Z0.out; have := Z1.out; have := Z2.out; have := Z3.out; have := Z4.out; have := Z5.out; have := Z6.out; have := Z7.out; have := Z8.out; have := Z9.out; have := Z10.out; have := Z11.out; have := Z12.out; have := Z13.out; have := Z14.out; have := Z15.out; have := Z16.out; (try simp only [World.size_alloc] at *); omega))
  replace HBP2 := Lib.hid (Box2.within HBP2.out hg (by have := Z0.out; have := Z1.out; have := Z2.out; have := Z3.out; have := Z4.out; have := Z5.out; have := Z6.out; have := Z7.out; have := Z8.out; have := Z9.out; have := Z10.out; have := Z11.out; have := Z12.out; have := Z13.out; have := Z14.out; have := Z15.out; have := Z16.out; (try simp only [World.size_alloc] at *); omega))
  replace HBvs := Lib.hid (Box2.within HBvs.out hg (by have := Z0.out; have := Z1.out; have := Z2.out; have := Z3.out; have := Z4.out; have := Z5.out; have := Z6.out; have := Z7.out; have := Z8.out; have := Z9.out; have := Z10.out; have := Z11.out; have := Z12.out; have := Z13.out; have := Z14.out; have := Z15.out; have := Z16.out; (try simp only [World.size_alloc] at *); omega))
  replace HBxa0 := Lib.hid (Box2.within HBxa0.out hg (by have := Z0.out; have := Z1.out; have := Z2.out; have := Z3.out; have := Z4.out; have := Z5.out; have := Z6.out; have := Z7.out; have := Z8.out; have := Z9.out; have := Z10.out; have := Z11.out; have := Z12.out; have := Z13.out; have := Z14.out; have := Z15.out; have := Z16.out; (try simp only [World.size_alloc] at *); omega))
  replace HBxa2 := Lib.hid (Box2.within HBxa2.out hg (by have := Z0.out; have := Z1.out; have := Z2.out; have := Z3.out; have := Z4.out; have := Z5.out; have := Z6.out; have := Z7.out; have := Z8.out; have := Z9.out; have := Z10.out; have := Z11.out; have := Z12.out; have := Z13.out; have := Z14.out; have := Z15.out; have := Z16.out; (try simp only [World.size_alloc] at *); omega))
  replace HBvg := Lib.hid (Box2.within HBvg.out hg (by have := Z0.out; have := Z1.out; have := Z2.out; have := Z3.out; have := Z4.out; have := Z5.out; have := Z6.out; have := Z7.out; have := Z8.out; have := Z9.out; have := Z10.out; have := Z11.out; have := Z12.out; have := Z13.out; have := Z14.out; have := Z15.out; have := Z16.out; (try simp only [World.size_alloc] at *); omega))
  replace Ovs1 := Lib.hid (Own.within Ovs1.out hg Ivs1.out (by have := Z0.out; have := Z1.out; have := Z2.out; have := Z3.out; have := Z4.out; have := Z5.out; have := Z6.out; have := Z7.out; have := Z8.out; have := Z9.out; have := Z10.out; have := Z11.out; have := Z12.out; have := Z13.out; have := Z14.out; have := Z15.out; have := Z16.out; (try simp only [World.size_alloc] at *); omega))
  replace Ovs2 := Lib.hid (Own.within Ovs2.out hg Ivs2.out (by have := Z0.out; have := Z1.out; have := Z2.out; have := Z3.out; have := Z4.out; have := Z5.out; have := Z6.out; have := Z7.out; have := Z8.out; have := Z9.out; have := Z10.out; have := Z11.out; have := Z12.out; have := Z13.out; have := Z14.out; have := Z15.out; have := Z16.out; (try simp only [World.size_alloc] at *); omega))
  replace Oxa01 := Lib.hid (Own.within Oxa01.out hg Ixa01.out (by have := Z0.out; have := Z1.out; have := Z2.out; have := Z3.out; have := Z4.out; have := Z5.out; have := Z6.out; have := Z7.out; have := Z8.out; have := Z9.out; have := Z10.out; have := Z11.out; have := Z12.out; have := Z13.out; have := Z14.out; have := Z15.out; have := Z16.out; (try simp only [World.size_alloc] at *); omega))
  replace Oxa02 := Lib.hid (Own.within Oxa02.out hg Ixa02.out (by have := Z0.out; have := Z1.out; have := Z2.out; have := Z3.out; have := Z4.out; have := Z5.out; have := Z6.out; have := Z7.out; have := Z8.out; have := Z9.out; have := Z10.out; have := Z11.out; have := Z12.out; have := Z13.out; have := Z14.out; have := Z15.out; have := Z16.out; (try simp only [World.size_alloc] at *); omega))
  replace Ovg1 := Lib.hid (Own.within Ovg1.out hg Ivg1.out (by have := Z0.out; have := Z1.out; have := Z2.out; have := Z3.out; have := Z4.out; have := Z5.out; have := Z6.out; have := Z7.out; have := Z8.out; have := Z9.out; have := Z10.out; have := Z11.out; have := Z12.out; have := Z13.out; have := Z14.out; have := Z15.out; have := Z16.out; (try simp only [World.size_alloc] at *); omega))
  replace Ovg2 := Lib.hid (Own.within Ovg2.out hg Ivg2.out (by have := Z0.out; have := Z1.out; have := Z2.out; have := Z3.out; have := Z4.out; have := Z5.out; have := Z6.out; have := Z7.out; have := Z8.out; have := Z9.out; have := Z10.out; have := Z11.out; have := Z12.out; have := Z13.out; have := Z14.out; have := Z15.out; have := Z16.out; (try simp only [World.size_alloc] at *); omega))
  have Z17 := Lib.hid hg.size; clear hg
  replace Oxa21 := Lib.hid ho1; replace Oxa22 := Lib.hid ho2; clear ho1 ho2
  have e34a := HBP0.out.c0; have e34b := HBP0.out.c1
  have e35a := HBP2.out.c0; have e35b := HBP2.out.c1
  have e36a := HBvs.out.c0; have e36b := HBvs.out.c1
  have e37a := HBxa0.out.c0; have e37b := HBxa0.out.c1
  have e38a := HBxa2.out.c0; have e38b := HBxa2.out.c1
  have e39a := HBvg.out.c0; have e39b := HBvg.out.c1
  go_wp2_with fail
  clear e34a e34b e35a e35b e36a e36b e37a e37b e38a e38b e39a e39b
  refine (eqMeander_ok _ _ _ _ r1 r2 _ Ovg1.out.rd Ovg2.out.rd Ovs1.out.rd Ovs2.out.rd).mono ?_
  rintro e w12 ⟨rfl, hb⟩
  replace HBP0 := Lib.hid (Box2.below HBP0.out hb)
  replace HBP2 := Lib.hid (Box2.below HBP2.out hb)
  replace HBvs := Lib.hid (Box2.below HBvs.out hb)
  replace HBxa0 := Lib.hid (Box2.below HBxa0.out hb)
  replace HBxa2 := Lib.hid (Box2.below HBxa2.out hb)
  replace HBvg := Lib.hid (Box2.below HBvg.out hb)
  replace Ovs1 := Lib.hid (Own.below Ovs1.out hb)
  replace Ovs2 := Lib.hid (Own.below Ovs2.out hb)
  replace Oxa01 := Lib.hid (Own.below Oxa01.out hb)
  replace Oxa02 := Lib.hid (Own.below Oxa02.out hb)
  replace Oxa21 := Lib.hid (Own.below Oxa21.out hb)
  replace Oxa22 := Lib.hid (Own.below Oxa22.out hb)
  replace Ovg1 := Lib.hid (Own.below Ovg1.out hb)
  replace Ovg2 := Lib.hid (Own.below Ovg2.out hb)
  replace C := Lib.hid (Below.step C.out hb)
  have Z18 := Lib.hid (Below.size hb); clear hb
  have e40a := HBP0.out.c0; have e40b := HBP0.out.c1
  have e41a := HBP2.out.c0; have e41b := HBP2.out.c1
  have e42a := HBvs.out.c0; have e42b := HBvs.out.c1
  have e43a := HBxa0.out.c0; have e43b := HBxa0.out.c1
  have e44a := HBxa2.out.c0; have e44b := HBxa2.out.c1
  have e45a := HBvg.out.c0; have e45b := HBvg.out.c1
  go_wp2_with fail
  clear e40a e40b e41a e41b e42a e42b e43a e43b e44a e44b e45a e45b
  refine (markMeander_any (w5.alloc (.cells #[.slice xa21a xa21n xa21c, .slice xa22a xa22n xa22c] 28)).heap.size w6.heap.size _ _ r1 r2 1 _ Ovg1.out Ovg2.out Ivg1.out Ivg2.out (by have := Z0.out; have := Z1.out; have := Z2.out; have := Z3.out; have := Z4.out; have := Z5.out; have := Z6.out; have := Z7.out; have := Z8.out; have := Z9.out; have := Z10.out; have := Z11.out; have := Z12.out; have := Z13.out; have := Z14.out; have := Z15.out; have := Z16.out; have := Z17.out; have := Z18.out; omega) APvg.out (by omega) (by have := LN0.out; have := LP0.out; have := LN2.out; have := LP2.out; have := HR.out.1; have := HR.out.2; omega) (by have := LN0.out; have := LP0.out; have := LN2.out; have := LP2.out; have := HR.out.1; have := HR.out.2; omega) (by have := LN0.out; have := LP0.out; have := LN2.out; have := LP2.out; have := HR.out.1; have := HR.out.2; omega)).mono ?_
  rintro e w13 ⟨rfl, ho1, ho2, hg⟩
  replace C := Lib.hid (Within.below C.out hg (by have := Z0.out; have := Z1.out; have := Z2.out; have := Z3.out; have := Z4.out; have := Z5.out; have := Z6.out; have := Z7.out; have := Z8.out; have := Z9.out; have := Z10.out; have := Z11.out; have := Z12.out; have := Z13.out; have := Z14.out; have := Z15.out; have := Z16.out; have := Z17.out; have := Z18.out; (try simp only [World.size_alloc] at *); omega) (by have := Z0.out; have := Z1.out; have := Z2.out; have := Z3.out; have := Z4.out; have := Z5.out; have := Z6.out; have := Z7.out; have := Z8.out; have := Z9.out; have := Z10.out; have := Z11.out; have := Z12.out; have := Z13.out; have := Z14.out; have := Z15.out; have := Z16.out; have := Z17.out; have := Z18.out; (try simp only [World.size_alloc] at *); omega))
  replace HBP0 := Lib.hid (Box2.within HBP0.out hg (by have := Z0.out; have := Z1.out; have := Z2.out; have := Z3.out; have := Z4.out; have := Z5.out; have := Z6.out; have := Z7.out; have := Z8.out; have := Z9.out; have := Z10.out; have := Z11.out; have := Z12.out; have := Z13.out; have := Z14.out; have := Z15.out; have := Z16.out; have := Z17.out; have := Z18.out; (try simp only [World.size_alloc] at *); omega))
  replace HBP2 := Lib.hid (Box2.within HBP2.out hg (by have := Z0.out; have := Z1.out; have := Z2.out; have := Z3.out; have := Z4.out; have := Z5.out; have := Z6.out; have := Z7.out; have := Z8.out; have := Z9.out; have := Z10.out; have := Z11.out; have := Z12.out; have := Z13.out; have := Z14.out; have := Z15.out; have := Z16.out; have := Z17.out; have := Z18.out; (try simp only [World.size_alloc] at *); omega))
  replace HBvs := Lib.hid (Box2.within HBvs.out hg (by have := Z0.out; have := Z1.out; have := Z2.out; have := Z3.out; have := Z4.out; have := Z5.out; have := Z6.out; have := Z7.out; have := Z8.out; have := Z9.out; have := Z10.out; have := Z11.out; have := Z12.out; have := Z13.out; have := Z14.out; have := Z15.out; have := Z16.out; have := Z17.out; have := Z18.out; (try simp only [World.size_alloc] at *); omega))
  replace HBxa0 := Lib.hid (Box2.within HBxa0.out hg (by have := Z0.out; have := Z1.out; have := Z2.out; have := Z3.out; have := Z4.out; have := Z5.out; have := Z6.out; have := Z7.out; have := Z8.out; have := Z9.out; have := Z10.out; have := Z11.out; have := Z12.out; have := Z13.out; have := Z14.out; have := Z15.out; have := Z16.out; have := Z17.out; have := Z18.out; (try simp only [World.size_alloc] at *); omega))
  replace HBxa2 := Lib.hid (Box2.within HBxa2.out hg (by have := Z0.out; have := Z1.out; have := Z2.out; have := Z3.out; have := Z4.out; have := Z5.out; have := Z6.out; have := Z7.out; have := Z8.out; have := Z9.out; have := Z10.out; have := Z11.out; have := Z12.out; have := Z13.out; have := Z14.out; have := Z15.out; have := Z16.out; have := Z17.out; have := Z18.out; (try simp only [World.size_alloc] at *); omega))
  replace HBvg := Lib.hid (Box2.within HBvg.out hg (by have := Z0.out; have := Z1.out; have := Z2.out; have := Z3.out; have := Z4.out; have := Z5.out; have := Z6.out; have := Z7.out; have := Z8.out; have := Z9.out; have := Z10.out; have := Z11.out; have := Z12.out; have := Z13.out; have := Z14.out; have := Z15.out; have := Z16.out; have := Z17.out; have := Z18.out; (try simp only [World.size_alloc] at *); omega))
  replace Ovs1 := Lib.hid (Own.within Ovs1.out hg Ivs1.out (by have := Z0.out; have := Z1.out; have := Z2.out; have := Z3.out; have := Z4.out; have := Z5.out; have := Z6.out; have := Z7.out; have := Z8.out; have := Z9.out; have := Z10.out; have := Z11.out; have := Z12.out; have := Z13.out; have := Z14.out; have := Z15.out; have := Z16.out; have := Z17.out; have := Z18.out; (try simp only [World.size_alloc] at *); omega))
  replace Ovs2 := Lib.hid (Own.within Ovs2.out hg Ivs2.out (by have := Z0.out; have := Z1.out; have := Z2.out; have := Z3.out; have := Z4.out; have := Z5.out; have := Z6.out; have := Z7.out; have := Z8.out; have := Z9.out; have := Z10.out; have := Z11.out; have := Z12.out; have := Z13.out; have := Z14.out; have := Z15.out; have := Z16.out; have := Z17.out; have := Z18.out; (try simp only [World.size_alloc] at *); omega))
  replace Oxa01 := Lib.hid (Own.within Oxa01.out hg Ixa01.out (by have := Z0.out; have := Z1.out; have := Z2.out; have := Z3.out; have := Z4.out; have := Z5.out; have := Z6.out; have := Z7.out; have := Z8.out; have := Z9.out; have := Z10.out; have := Z11.out; have := Z12.out; have := Z13.out; have := Z14.out; have := Z15.out; have := Z16.out; have := Z17.out; have := Z18.out; (try simp only [World.size_alloc] at *); omega))
  replace Oxa02 := Lib.hid (Own.within Oxa02.out hg Ixa02.out (by have := Z0.out; have := Z1.out; have := Z2.out; have := Z3.out; have := Z4.out; have := Z5.out; have := Z6.out; have := Z7.out; have := Z8.out; have := Z9.out; have := Z10.out; have := Z11.out; have := Z12.out; have := Z13.out; have := Z14.out; have := Z15.out; have := Z16.out; have := Z17.out; have := Z18.out; (try simp only [World.size_alloc] at *); omega))
  replace Oxa21 := Lib.hid (Own.within Oxa21.out hg Ixa21.out (by have := Z0.out; have := Z1.out; have := Z2.out; have := Z3.out; have := Z4.out; have := Z5.out; have := Z6.out; have := Z7.out; have := Z8.out; have := Z9.out; have := Z10.out; have := Z11.out; have := Z12.out; have := Z13.out; have := Z14.out; have := Z15.out; have := Z16.out; have := Z17.out; have := Z18.out; (try simp only [World.size_alloc] at *); omega))
  replace Oxa22 := Lib.hid (Own.within Oxa22.out hg Ixa22.out (by have := Z0.out; have := Z1.out; have := Z2.out; have := Z3.out; have := Z4.out; have := Z5.out; have := Z6.out; have := Z7.out; have := Z8.out; have := Z9.out; have := Z10.out; have := Z11.out; have := Z12.out; have := Z13.out; have := Z14.out; have := Z15.out; have := Z16.out; have := Z17.out; have := Z18.out; (try simp only [World.size_alloc] at *); omega))
  have Z19 := Lib.hid hg.size; clear hg
  replace Ovg1 := Lib.hid ho1; replace Ovg2 := Lib.hid ho2; clear ho1 ho2
  have e46a := HBP0.out.c0; have e46b := HBP0.out.c1
  have e47a := HBP2.out.c0; have e47b := HBP2.out.c1
  have e48a := HBvs.out.c0; have e48b := HBvs.out.c1
  have e49a := HBxa0.out.c0; have e49b := HBxa0.out.c1
  have e50a := HBxa2.out.c0; have e50b := HBxa2.out.c1
  have e51a := HBvg.out.c0; have e51b := HBvg.out.c1
  go_wp2_with fail
  clear e46a e46b e47a e47b e48a e48b e49a e49b e50a e50b e51a e51b
  refine (heldMeander_ok _ _ 1 r1.length r2.length _ Ovg1.out.rd Ovg2.out.rd (by omega) (by omega) (by have := LN0.out; have := LP0.out; have := LN2.out; have := LP2.out; have := HR.out.1; have := HR.out.2; omega) (by have := LN0.out; have := LP0.out; have := LN2.out; have := LP2.out; have := HR.out.1; have := HR.out.2; omega)).mono ?_
  rintro e w14 ⟨rfl, hb⟩
  replace HBP0 := Lib.hid (Box2.below HBP0.out hb)
  replace HBP2 := Lib.hid (Box2.below HBP2.out hb)
  replace HBvs := Lib.hid (Box2.below HBvs.out hb)
  replace HBxa0 := Lib.hid (Box2.below HBxa0.out hb)
  replace HBxa2 := Lib.hid (Box2.below HBxa2.out hb)
  replace HBvg := Lib.hid (Box2.below HBvg.out hb)
  replace Ovs1 := Lib.hid (Own.below Ovs1.out hb)
  replace Ovs2 := Lib.hid (Own.below Ovs2.out hb)
  replace Oxa01 := Lib.hid (Own.below Oxa01.out hb)
  replace Oxa02 := Lib.hid (Own.below Oxa02.out hb)
  replace Oxa21 := Lib.hid (Own.below Oxa21.out hb)
  replace Oxa22 := Lib.hid (Own.below Oxa22.out hb)
  replace Ovg1 := Lib.hid (Own.below Ovg1.out hb)
  replace Ovg2 := Lib.hid (Own.below Ovg2.out hb)
  replace C := Lib.hid (Below.step C.out hb)
  have Z20 := Lib.hid (Below.size hb); clear hb
  go_upto_region 31 with (fail)
  go_cut [17, 18] (fun s1 s2 wx => ∃ (g : Nat) (v1 v2 : Value), s1 = .pointer (some ⟨g, 0, none⟩) ∧ s2 = .bool ok ∧ Hid (Box2 28 wx g v1 v2 ∧ (w14.heap.size ≤ g ∧ g < wx.heap.size) ∧ Own w14.heap.size wx v1 r1 ∧ Own w14.heap.size wx v2 r2 ∧ ApartV v1 v2) ∧ Hid (Below w14.heap.size w14 wx))
  case first =>
    have l0 := HBP0.out.lt; have l1 := HBP2.out.lt
    go_region_held3 (fun w' => Hid (Below w14.heap.size w14 w') ∧ w'.cell? ⟨w.heap.size, 0, none⟩ = some (.slice a0 n0 c0) ∧ w'.cell? ⟨w.heap.size, 1, none⟩ = some (.slice d0 p0 q0) ∧ w'.cell? ⟨w.heap.size + 1, 0, none⟩ = some (.slice a2 n2 c2) ∧ w'.cell? ⟨w.heap.size + 1, 1, none⟩ = some (.slice d2 p2 q2))
      (first | assumption | exact held_two HBP0.out HBP2.out (Below.refl _ _) | exact held_two HBP0.out HBP2.out (Below.drew (Below.refl _ _)) | exact held_keep (by assumption) (by assumption) | exact held_alloc (by assumption) _ | exact held_two HBP0.out HBP2.out ((Below.setCell (held_out (by assumption)) (by first | exact Nat.le_refl _ | exact zz1 | exact zz2 | exact zz3) _).setCell (by first | exact Nat.le_refl _ | exact zz1 | exact zz2 | exact zz3) _) | exact held_two HBP0.out HBP2.out (Below.step BB3.out (Below.alloc1 _ _)))
      (first
        | (go_at_call_of 13 (Value.agg #[.slice a0 n0 c0, .slice d0 p0 q0]); ((refine (toMeander_ok _ _ t0 b0 _ ((A0.out.below C.out).below (held_out (by assumption))) ((D0.out.below C.out).below (held_out (by assumption))) LN0.out LP0.out).mono ?_); rintro e' wq1 ⟨yv1, yv2, rfl, yo1, yo2, yap, hb1⟩; have zz1 : w14.heap.size ≤ wq1.heap.size := Nat.le_trans (Below.size (held_out (by assumption))) hb1.size; (first | have bx1 := Lib.hid (Box2.below (Box2.new_drew 28 w14 (.slice none 0 0) (.slice none 0 0)) hb1) | skip); have YO1 := Lib.hid yo1; have YO2 := Lib.hid yo2; obtain ⟨y1a, y1n, y1c, rfl⟩ := yo1.form'; obtain ⟨y2a, y2n, y2c, rfl⟩ := yo2.form'; clear yo1 yo2 yap))
        | (go_at_call_of 13 (Value.agg #[.slice a2 n2 c2, .slice d2 p2 q2]); ((refine (toMeander_ok _ _ t2 b2 _ ((A2.out.below C.out).below (held_out (by assumption))) ((D2.out.below C.out).below (held_out (by assumption))) LN2.out LP2.out).mono ?_); rintro e' wq2 ⟨xv1, xv2, rfl, xo1, xo2, xap, hb2⟩; have zz2 : w14.heap.size ≤ wq2.heap.size := Nat.le_trans (Below.size (held_out (by assumption))) hb2.size; (first | have bx2 := Lib.hid (Box2.below bx1.out hb2) | have bx2 := Lib.hid (Box2.below (Box2.new 28 _ _ _) hb2) | skip); (first | have YP1 := Lib.hid (Own.below YO1.out hb2) | have YP1 := Lib.hid (Own.below (Own.below YO1.out (Below.alloc1 _ _)) hb2)); (first | have YP2 := Lib.hid (Own.below YO2.out hb2) | have YP2 := Lib.hid (Own.below (Own.below YO2.out (Below.alloc1 _ _)) hb2)); have XO1 := Lib.hid xo1; have XO2 := Lib.hid xo2; obtain ⟨x1a, x1n, x1c, rfl⟩ := xo1.form'; obtain ⟨x2a, x2n, x2c, rfl⟩ := xo2.form'; clear xo1 xo2 xap))
        | (go_at_call 28; ((first | refine (HI.out _ _ _ _ _ YP1.out.rd YP2.out.rd XO1.out.rd XO2.out.rd).mono ?_ | refine (HI.out _ _ _ _ _ (Own.below YP1.out (Below.alloc1 _ _)).rd (Own.below YP2.out (Below.alloc1 _ _)).rd (Own.below XO1.out (Below.alloc1 _ _)).rd (Own.below XO2.out (Below.alloc1 _ _)).rd).mono ?_); rintro e' wq3 ⟨gv1, gv2, rfl, go1, go2, gap, hb3⟩; have zz3 : w14.heap.size ≤ wq3.heap.size := Nat.le_trans (Below.size (held_out (by assumption))) hb3.size; have BB3 := Lib.hid (Below.step (held_out (by assumption)) hb3); (first | have bx3 := Lib.hid (Box2.below bx2.out hb3) | have bx3 := Lib.hid (Box2.below (Box2.new 28 _ _ _) hb3) | skip); (try (have q0 := bx3.out.c0; have q1 := bx3.out.c1; have q2 := bx3.out.free 0; have q3 := bx3.out.free 1)); have GO1 := Lib.hid go1; have GO2 := Lib.hid go2; have GAP := Lib.hid gap; obtain ⟨g1a, g1n, g1c, rfl⟩ := go1.form'; obtain ⟨g2a, g2n, g2c, rfl⟩ := go2.form'; clear go1 go2 gap)))
    all_goals
      go_wp2_with fail
      go_meet
      first
        | exact ⟨_, _, _, rfl, rfl, met_new BB3.out rfl (by first | exact Nat.le_refl _ | exact zz1 | exact zz2 | exact Nat.le_trans zz2 (Nat.le_of_lt (alloc_lt _ _))) GO1.out GO2.out GAP.out⟩
        | exact ⟨_, _, _, rfl, rfl, met_set bx3.out (by first | exact Nat.le_refl _ | exact zz1 | exact zz2 | exact Nat.le_trans zz2 (Nat.le_of_lt (alloc_lt _ _))) (by first | exact bx2.out.lt | exact alloc_lt _ _) BB3.out rfl (by first | exact Nat.le_refl _ | exact zz1 | exact zz2 | exact Nat.le_trans zz2 (Nat.le_of_lt (alloc_lt _ _))) GO1.out GO2.out GAP.out⟩
  obtain ⟨gvh, vhv1, vhv2, rfl, rfl, vhq, hb0⟩ := hcut
  generalize wc = w15 at *
  have hb := hb0.out; clear hb0
  replace HBP0 := Lib.hid (Box2.below HBP0.out hb)
  replace HBP2 := Lib.hid (Box2.below HBP2.out hb)
  replace HBvs := Lib.hid (Box2.below HBvs.out hb)
  replace HBxa0 := Lib.hid (Box2.below HBxa0.out hb)
  replace HBxa2 := Lib.hid (Box2.below HBxa2.out hb)
  replace HBvg := Lib.hid (Box2.below HBvg.out hb)
  replace Ovs1 := Lib.hid (Own.below Ovs1.out hb)
  replace Ovs2 := Lib.hid (Own.below Ovs2.out hb)
  replace Oxa01 := Lib.hid (Own.below Oxa01.out hb)
  replace Oxa02 := Lib.hid (Own.below Oxa02.out hb)
  replace Oxa21 := Lib.hid (Own.below Oxa21.out hb)
  replace Oxa22 := Lib.hid (Own.below Oxa22.out hb)
  replace Ovg1 := Lib.hid (Own.below Ovg1.out hb)
  replace Ovg2 := Lib.hid (Own.below Ovg2.out hb)
  replace C := Lib.hid (Below.step C.out hb)
  have Z21 := Lib.hid (Below.size hb); clear hb
  obtain ⟨vhbx, vhz, vho1, vho2, vhap⟩ := vhq.out; clear vhq
  obtain ⟨vh1a, vh1n, vh1c, rfl⟩ := vho1.form'; obtain ⟨vh2a, vh2n, vh2c, rfl⟩ := vho2.form'
  have Ivh1 := Lib.hid (Own.inn vho1); have Ivh2 := Lib.hid (Own.inn vho2); have APvh := Lib.hid vhap
  have Ovh1 := Lib.hid vho1; have Ovh2 := Lib.hid vho2; clear vho1 vho2 vhap
  have HBvh := Lib.hid vhbx; clear vhbx
  have Z22 := Lib.hid vhz; clear vhz
  have e52a := HBP0.out.c0; have e52b := HBP0.out.c1
  have e53a := HBP2.out.c0; have e53b := HBP2.out.c1
  have e54a := HBvs.out.c0; have e54b := HBvs.out.c1
  have e55a := HBxa0.out.c0; have e55b := HBxa0.out.c1
  have e56a := HBxa2.out.c0; have e56b := HBxa2.out.c1
  have e57a := HBvg.out.c0; have e57b := HBvg.out.c1
  have e58a := HBvh.out.c0; have e58b := HBvh.out.c1
  go_wp2_with fail
  clear e52a e52b e53a e53b e54a e54b e55a e55b e56a e56b e57a e57b e58a e58b
  refine (eqMeander_ok _ _ _ _ r1 r2 _ Ovh1.out.rd Ovh2.out.rd Ovs1.out.rd Ovs2.out.rd).mono ?_
  rintro e w16 ⟨rfl, hb⟩
  replace HBP0 := Lib.hid (Box2.below HBP0.out hb)
  replace HBP2 := Lib.hid (Box2.below HBP2.out hb)
  replace HBvs := Lib.hid (Box2.below HBvs.out hb)
  replace HBxa0 := Lib.hid (Box2.below HBxa0.out hb)
  replace HBxa2 := Lib.hid (Box2.below HBxa2.out hb)
  replace HBvg := Lib.hid (Box2.below HBvg.out hb)
  replace HBvh := Lib.hid (Box2.below HBvh.out hb)
  replace Ovs1 := Lib.hid (Own.below Ovs1.out hb)
  replace Ovs2 := Lib.hid (Own.below Ovs2.out hb)
  replace Oxa01 := Lib.hid (Own.below Oxa01.out hb)
  replace Oxa02 := Lib.hid (Own.below Oxa02.out hb)
  replace Oxa21 := Lib.hid (Own.below Oxa21.out hb)
  replace Oxa22 := Lib.hid (Own.below Oxa22.out hb)
  replace Ovg1 := Lib.hid (Own.below Ovg1.out hb)
  replace Ovg2 := Lib.hid (Own.below Ovg2.out hb)
  replace Ovh1 := Lib.hid (Own.below Ovh1.out hb)
  replace Ovh2 := Lib.hid (Own.below Ovh2.out hb)
  replace C := Lib.hid (Below.step C.out hb)
  have Z23 := Lib.hid (Below.size hb); clear hb
  have e59a := HBP0.out.c0; have e59b := HBP0.out.c1
  have e60a := HBP2.out.c0; have e60b := HBP2.out.c1
  have e61a := HBvs.out.c0; have e61b := HBvs.out.c1
  have e62a := HBxa0.out.c0; have e62b := HBxa0.out.c1
  have e63a := HBxa2.out.c0; have e63b := HBxa2.out.c1
  have e64a := HBvg.out.c0; have e64b := HBvg.out.c1
  have e65a := HBvh.out.c0; have e65b := HBvh.out.c1
  go_wp2_with fail
  clear e59a e59b e60a e60b e61a e61b e62a e62b e63a e63b e64a e64b e65a e65b
  refine (heldMeander_ok _ _ 1 r1.length r2.length _ Ovg1.out.rd Ovg2.out.rd (by omega) (by omega) (by have := LN0.out; have := LP0.out; have := LN2.out; have := LP2.out; have := HR.out.1; have := HR.out.2; omega) (by have := LN0.out; have := LP0.out; have := LN2.out; have := LP2.out; have := HR.out.1; have := HR.out.2; omega)).mono ?_
  rintro e w17 ⟨rfl, hb⟩
  replace HBP0 := Lib.hid (Box2.below HBP0.out hb)
  replace HBP2 := Lib.hid (Box2.below HBP2.out hb)
  replace HBvs := Lib.hid (Box2.below HBvs.out hb)
  replace HBxa0 := Lib.hid (Box2.below HBxa0.out hb)
  replace HBxa2 := Lib.hid (Box2.below HBxa2.out hb)
  replace HBvg := Lib.hid (Box2.below HBvg.out hb)
  replace HBvh := Lib.hid (Box2.below HBvh.out hb)
  replace Ovs1 := Lib.hid (Own.below Ovs1.out hb)
  replace Ovs2 := Lib.hid (Own.below Ovs2.out hb)
  replace Oxa01 := Lib.hid (Own.below Oxa01.out hb)
  replace Oxa02 := Lib.hid (Own.below Oxa02.out hb)
  replace Oxa21 := Lib.hid (Own.below Oxa21.out hb)
  replace Oxa22 := Lib.hid (Own.below Oxa22.out hb)
  replace Ovg1 := Lib.hid (Own.below Ovg1.out hb)
  replace Ovg2 := Lib.hid (Own.below Ovg2.out hb)
  replace Ovh1 := Lib.hid (Own.below Ovh1.out hb)
  replace Ovh2 := Lib.hid (Own.below Ovh2.out hb)
  replace C := Lib.hid (Below.step C.out hb)
  have Z24 := Lib.hid (Below.size hb); clear hb
  go_wp2
  go_ret
  exact ⟨rfl, C.out⟩

set_option maxHeartbeats 2000000 in
theorem walk_InsertPair (a0 : Option Addr) (len0 cap0 : Nat) (z0 : List Int) (d0 : Option Addr) (pen0 qap0 : Nat) (y0 : List Int) (a1 : Int) (a2 : Option Addr) (len2 cap2 : Nat) (z2 : List Int) (d2 : Option Addr) (pen2 qap2 : Nat) (y2 : List Int) (w : World) (w0 : RowIn w a0 len0 cap0 z0) (v0 : RowIn w d0 pen0 qap0 y0) (w1 : (Lit.int .i64 a1).wf = true) (w2 : RowIn w a2 len2 cap2 z2) (v2 : RowIn w d2 pen2 qap2 y2) :
    Calls Try.prog 7 #[.agg #[.slice a0 len0 cap0, .slice d0 pen0 qap0], .int .i64 a1, .agg #[.slice a2 len2 cap2, .slice d2 pen2 qap2]] w (Good w) := by
  have Gw0 : len0 ≤ 9223372036854775807 := by rcases w0 with ⟨_, q1, q2, _⟩ | ⟨_, _, q1, q2, _⟩ <;> first | (unfold maxLen at q2; omega) | omega
  have Gv0 : pen0 ≤ 9223372036854775807 := by rcases v0 with ⟨_, q1, q2, _⟩ | ⟨_, _, q1, q2, _⟩ <;> first | (unfold maxLen at q2; omega) | omega
  have Gw2 : len2 ≤ 9223372036854775807 := by rcases w2 with ⟨_, q1, q2, _⟩ | ⟨_, _, q1, q2, _⟩ <;> first | (unfold maxLen at q2; omega) | omega
  have Gv2 : pen2 ≤ 9223372036854775807 := by rcases v2 with ⟨_, q1, q2, _⟩ | ⟨_, _, q1, q2, _⟩ <;> first | (unfold maxLen at q2; omega) | omega
  by_cases hall : len0 + pen0 + len2 + pen2 ≤ 1048576
  · exact core_InsertPair a0 d0 len0 cap0 pen0 qap0 (z0.take len0) (y0.take pen0) a1 a2 d2 len2 cap2 pen2 qap2 (z2.take len2) (y2.take pen2) (res1_InsertPair (z0.take len0) (y0.take pen0) a1 (z2.take len2) (y2.take pen2)) (res2_InsertPair (z0.take len0) (y0.take pen0) a1 (z2.take len2) (y2.take pen2)) (ok_InsertPair (z0.take len0) (y0.take pen0) a1 (z2.take len2) (y2.take pen2)) w (RowIn.rd w0) (RowIn.rd v0)  (RowIn.rd w2) (RowIn.rd v2) hall (fun w u50 v50 u52 v52 k0 j0 k2 j2 => spec_InsertPair (z0.take len0) (y0.take pen0) a1 (z2.take len2) (y2.take pen2) w u50 v50 u52 v52 k0 j0 k2 j2 (by rw [RowIn.len w0]; omega) (by rw [RowIn.len v0]; omega)  (by rw [RowIn.len w2]; omega) (by rw [RowIn.len v2]; omega)) (fun w u50 v50 u52 v52 k0 j0 k2 j2 => impl_InsertPair (z0.take len0) (y0.take pen0) a1 (z2.take len2) (y2.take pen2) w u50 v50 u52 v52 k0 j0 k2 j2 (by rw [RowIn.len w0]; omega) (by rw [RowIn.len v0]; omega)  (by rw [RowIn.len w2]; omega) (by rw [RowIn.len v2]; omega)) (len_InsertPair (z0.take len0) (y0.take pen0) a1 (z2.take len2) (y2.take pen2))
  · clear w0 v0 w1 w2 v2
    have P0 := Box2.below (Box2.new 24 w (.slice a0 len0 cap0) (.slice d0 pen0 qap0)) (Below.alloc1 _ (.cells #[.slice a2 len2 cap2, .slice d2 pen2 qap2] 24))
    have P1 := Box2.new 24 (w.alloc (.cells #[.slice a0 len0 cap0, .slice d0 pen0 qap0] 24)) (.slice a2 len2 cap2) (.slice d2 pen2 qap2)
    have B0 := Below.step (Below.alloc1 w (.cells #[.slice a0 len0 cap0, .slice d0 pen0 qap0] 24)) (Below.alloc1 _ (.cells #[.slice a2 len2 cap2, .slice d2 pen2 qap2] 24))
    rw [World.size_alloc] at P1
    have HP1 := Lib.hid P1; have HB := Lib.hid B0; have k0 := P0.c0; have k1 := P0.c1; clear P0 P1 B0
    by_cases hf : len0 + pen0 ≤ 1048576
    · go_enter Try.func7, Try.ntmps7
      go_wp2_with fail
      refine (szMeander_ok a0 d0 len0 pen0 cap0 qap0 1048576 _ (by omega) (by omega) (by omega) (by omega) (by omega)).mono ?_
      rintro e w1 ⟨rfl, hb⟩
      have k2 := (HP1.out.below hb).c0; have k3 := (HP1.out.below hb).c1; have HB1 := Lib.hid (Below.step HB.out hb); clear hb k0 k1
      go_wp2_with fail
      refine (szMeander_no a2 d2 len2 pen2 cap2 qap2 (1048576 - (len0 : Int) - (pen0 : Int)) _ (by omega) (by omega) (by omega) (by omega) (by omega)).mono ?_
      rintro e w2 ⟨rfl, hb⟩
      go_wp2
      go_ret
      exact ⟨rfl, Below.step HB1.out hb⟩
    · go_enter Try.func7, Try.ntmps7
      go_wp2_with fail
      refine (szMeander_no a0 d0 len0 pen0 cap0 qap0 1048576 _ (by omega) (by omega) (by omega) (by omega) (by omega)).mono ?_
      rintro e w1 ⟨rfl, hb⟩
      go_wp2
      go_ret
      exact ⟨rfl, Below.step HB.out hb⟩
end Go.Proofs.Ytaeeopdiodaiaaa

namespace Go.Proofs.Ytaeeopdiodaiaaa.fnExactInsertPair
open Go.ChangeShapes Go.WideShapes Go.ChangeAt Go.RowKit
open Go.ChangeMaps (open_string shut_string)
open Go.Joins (open_agg2 open_agg3)
set_option linter.unusedVariables false
set_option linter.unusedSimpArgs false

theorem own : ownKnob Try.prog.godebug = none := by kernel_rfl
theorem laidOut : laidOutB Try.prog = true := by kernel_rfl

theorem cellsM : Try.prog.cellsOf 24 = 2 := by kernel_rfl

set_option maxRecDepth 100000 in
theorem lifted (os : Os) (started : os.Started) (H : Type) (enc : TypeId × Value → H) :
    ReturnsInHanded {} Try.checked os 7 .any (Rows.fnExactInsertPairSpec.pre6 enc Try.prog Try.f7 Rows.fnExactInsertPairRow.domain false) (Rows.fnExactInsertPairSpec.post enc Try.prog Try.f7 false true false false) := by
  refine returnsInHanded_of_change (C := Try.checked) own started (by kernel_rfl) Try.func7
    (ChangeSpec.witness6 (enc := enc) (C := Try.checked) false ⟨#[], #[.agg #[.slice none 0 0, .slice none 0 0], .int .i64 0, .agg #[.slice none 0 0, .slice none 0 0]], []⟩ 8 (by kernel_rfl) (by kernel_rfl) (by kernel_rfl) (by kernel_rfl)) ?_
  intro W base args ds gs before hval0 hW hcnd _
  have hval : ∀ (j : Nat) t v, Try.f7.params[j]? = some t → args[j]? = some v → Value.okWide Try.prog W .any base t v := hval0
  have hW' := hW
  obtain ⟨p, q, hA0, hV, rfl, hfz, hnd⟩ := hW
  have hA : DataW.TrodAll enc Try.prog W 0 (fun _ => true) true Try.f7.params.toList args.toList ds p := hA0
  rw [Try.params7] at hA hval
  obtain ⟨v0, vs0, d0, ds0, p0, q0, hargs, rfl, rfl, h0, r0⟩ := trodAll_cons hA
  obtain ⟨v1, vs1, d1, ds1, p1, q1, rfl, rfl, rfl, h1, r1⟩ := trodAll_cons r0
  obtain ⟨v2, vs2, d2, ds2, p2, q2, rfl, rfl, rfl, h2, r2⟩ := trodAll_cons r1
  obtain ⟨rfl, rfl, rfl⟩ := trodAll_nil r2
  obtain rfl : args = #[v0, v1, v2] := by cases args; simp_all
  obtain ⟨rfl, rfl⟩ := trodVars_none hV
  have k0 := h0
  have lt0 : ∀ x ∈ p0, x.block < W.heap.size := by obtain ⟨m, hm⟩ := k0; exact DataW.trod_lt m _ _ _ hm
  obtain ⟨u0, v0x, y00, y01, fu0, rfl, rfl, rfl, f00, f01⟩ := open_agg2 Try.underlying24 (by kernel_rfl) cellsM (hval 0 24 v0 rfl rfl) h0
  obtain ⟨a0, len0, cap0, z0, rfl, w0⟩ : ∃ a l c zs, u0 = .slice a l c ∧ RowIn W a l c zs := by
    rcases open_ints Try.underlying22 Try.underlying3 (by kernel_rfl) f00 with ⟨hcs, _⟩ | ⟨x, l, c, zs, hcs, _, hl, hm, hz, _, hcell, hwz⟩
    · simp at hcs
      subst hcs
      exact ⟨none, 0, 0, [], rfl, .inl ⟨rfl, rfl, rfl, rfl⟩⟩
    · simp at hcs
      subst hcs
      exact ⟨some x, l, c, zs, rfl, .inr ⟨_, rfl, hl, hm, by simpa using hz, hcell, hwz⟩⟩
  obtain ⟨d0, pen0, qap0, y0, rfl, v0⟩ : ∃ a l c zs, v0x = .slice a l c ∧ RowIn W a l c zs := by
    rcases open_ints Try.underlying22 Try.underlying3 (by kernel_rfl) f01 with ⟨hcs, _⟩ | ⟨x, l, c, zs, hcs, _, hl, hm, hz, _, hcell, hwz⟩
    · simp at hcs
      subst hcs
      exact ⟨none, 0, 0, [], rfl, .inl ⟨rfl, rfl, rfl, rfl⟩⟩
    · simp at hcs
      subst hcs
      exact ⟨some x, l, c, zs, rfl, .inr ⟨_, rfl, hl, hm, by simpa using hz, hcell, hwz⟩⟩
  obtain ⟨a1, rfl, rfl, rfl, w1⟩ := open_int Try.underlying3 (hval 1 3 v1 rfl rfl) h1
  have k2 := h2
  have lt2 : ∀ x ∈ p2, x.block < W.heap.size := by obtain ⟨m, hm⟩ := k2; exact DataW.trod_lt m _ _ _ hm
  obtain ⟨u2, v2x, y20, y21, fu2, rfl, rfl, rfl, f20, f21⟩ := open_agg2 Try.underlying24 (by kernel_rfl) cellsM (hval 2 24 v2 rfl rfl) h2
  obtain ⟨a2, len2, cap2, z2, rfl, w2⟩ : ∃ a l c zs, u2 = .slice a l c ∧ RowIn W a l c zs := by
    rcases open_ints Try.underlying22 Try.underlying3 (by kernel_rfl) f20 with ⟨hcs, _⟩ | ⟨x, l, c, zs, hcs, _, hl, hm, hz, _, hcell, hwz⟩
    · simp at hcs
      subst hcs
      exact ⟨none, 0, 0, [], rfl, .inl ⟨rfl, rfl, rfl, rfl⟩⟩
    · simp at hcs
      subst hcs
      exact ⟨some x, l, c, zs, rfl, .inr ⟨_, rfl, hl, hm, by simpa using hz, hcell, hwz⟩⟩
  obtain ⟨d2, pen2, qap2, y2, rfl, v2⟩ : ∃ a l c zs, v2x = .slice a l c ∧ RowIn W a l c zs := by
    rcases open_ints Try.underlying22 Try.underlying3 (by kernel_rfl) f21 with ⟨hcs, _⟩ | ⟨x, l, c, zs, hcs, _, hl, hm, hz, _, hcell, hwz⟩
    · simp at hcs
      subst hcs
      exact ⟨none, 0, 0, [], rfl, .inl ⟨rfl, rfl, rfl, rfl⟩⟩
    · simp at hcs
      subst hcs
      exact ⟨some x, l, c, zs, rfl, .inr ⟨_, rfl, hl, hm, by simpa using hz, hcell, hwz⟩⟩
  clear hA0 hval0
  refine (walk_InsertPair a0 len0 cap0 z0 d0 pen0 qap0 y0 a1 a2 len2 cap2 z2 d2 pen2 qap2 y2 W w0 v0 w1 w2 v2).mono fun e W' ⟨he, bel⟩ => ?_
  subst he
  exact ⟨_, rfl, _, _, _, [], _, [], hW', trodAll_mk1 (shut_bool Try.underlying4 _), (trodAll_cons_mk (Below.trod laidOut (by kernel_rfl) (of_decide_eq_true (by kernel_rfl)) k0 bel lt0) (trodAll_cons_mk (shut_int Try.underlying3 w1) (trodAll_cons_mk (Below.trod laidOut (by kernel_rfl) (of_decide_eq_true (by kernel_rfl)) k2 bel lt2) trodAll_mk0))), rfl, bel.frame _, fun h => by cases h⟩

theorem over : Rows.fnExactInsertPairRow.holds Try.pinned (OpenSpec.ofChange Rows.fnExactInsertPairSpec) :=
  OpenClaim.holds_of_wide 7 Try.f7 rfl rfl rfl rfl rfl rfl rfl ⟨rfl, rfl, rfl, rfl, rfl⟩ rfl rfl rfl rfl rfl (by kernel_rfl) Try.func7 (by kernel_rfl)
    (of_decide_eq_true (by kernel_rfl)) (by unfold Func.isWrapper; first | (rw [if_pos (by decide +kernel)]; kernel_rfl) | (rw [if_neg (by decide +kernel)]; exact ⟨rfl, rfl⟩))
    (fun os started H enc _ => lifted os started H enc)

theorem proved : Rows.FnExactInsertPairSaid := over
#print axioms proved
end Go.Proofs.Ytaeeopdiodaiaaa.fnExactInsertPair
