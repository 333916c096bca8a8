/-
  FnExactOutsideOf answers true at every input that can be read, and writes into nothing that was there before the call: the program's function answers as the model's does, writes into no argument, and its answer owns its memory.
  Conditions: none but the row's own.
-/
import Derived.Test.YtaeeopdiodaiaaaRows
import Derived.ProofKit
import Derived.OpenShut
import Derived.ShutString
import Derived.ChangeOld
import Derived.Below
import Derived.Lib.SmallJoins
import Derived.Test.YtaeeopdiodaiaaaMeander
import Derived.Deep.RegionHeld3
import Derived.Deep.DeepCutAuto
import Derived.Test.YtaeeopdiodaiaaaCutIn
namespace Go.Proofs.Ytaeeopdiodaiaaa
open Go.RowKit
set_option linter.unusedSimpArgs false
set_option linter.unusedVariables false

set_option maxHeartbeats 8000000 in
set_option maxRecDepth 100000 in
theorem core_OutsideOf (a0 d0 : Option Addr) (n0 c0 p0 q0 : Nat) (t0 b0 : List Int) (x1 : Int) (x2 : Int) (r1 r2 : List Int) (ok : Bool) (w : World) (h0 : Rd w (.slice a0 n0 c0) t0) (g0 : Rd w (.slice d0 p0 q0) b0) (hs0 : n0 + p0 ≤ 1048576) (hsp : ∀ (w : World) (u0 v0 : Value), Rd w u0 t0 → Rd w v0 b0 → Calls Try.prog 25 #[.agg #[u0, v0], .int .i64 x1, .int .i64 x2] w (GivesM w r1 r2 ok)) (him : ∀ (w : World) (u0 v0 : Value), Rd w u0 t0 → Rd w v0 b0 → Calls Try.prog 26 #[.agg #[u0, v0], .int .i64 x1, .int .i64 x2] w (GivesM w r1 r2 ok)) (hr : r1.length ≤ 1000000 ∧ r2.length ≤ 1000000) :
    Calls Try.prog 6 #[.agg #[.slice a0 n0 c0, .slice d0 p0 q0], .int .i64 x1, .int .i64 x2] w (Good w) := by
  have HS := Lib.hid hsp; have HI := Lib.hid him; clear hsp him
  have HR := Lib.hid hr; clear hr
  have ln0 : t0.length = n0 := by obtain ⟨_, _, hv, _⟩ := h0; simp at hv; exact hv.2.1.symm
  have lp0 : b0.length = p0 := by obtain ⟨_, _, hv, _⟩ := g0; simp at hv; exact hv.2.1.symm
  have LN0 : Hid (t0.length ≤ 1048576) := by show _ ≤ _; omega
  have LP0 : Hid (b0.length ≤ 1048576) := by show _ ≤ _; omega
  have A0 := Lib.hid h0; have D0 := Lib.hid g0
  have hn0 : n0 ≤ 1048576 := by omega
  have hp0 : p0 ≤ 1048576 := by omega
  clear ln0 lp0 h0 g0
  have Z0 : Hid (w.heap.size ≤ w.heap.size) := Nat.le_refl _
  have hba := Below.alloc1 w (.cells #[.slice a0 n0 c0, .slice d0 p0 q0] 24)
  have C : Hid (Below w.heap.size w (w.alloc (.cells #[.slice a0 n0 c0, .slice d0 p0 q0] 24))) := hba
  have HBP0 := Lib.hid (Box2.new 24 w (.slice a0 n0 c0) (.slice d0 p0 q0))
  clear hba
  have Z1 : Hid (w.heap.size < (w.alloc (.cells #[.slice a0 n0 c0, .slice d0 p0 q0] 24)).heap.size) := Lib.hid HBP0.out.lt
  go_enter Try.func6, Try.ntmps6
  have e0a := HBP0.out.c0; have e0b := HBP0.out.c1
  go_wp2_with fail
  clear e0a e0b
  refine (szMeander_ok a0 d0 n0 p0 c0 q0 1048576 _ (by omega) (by omega) (by omega) (by omega) (by omega)).mono ?_
  rintro e w1 ⟨rfl, hb⟩
  replace HBP0 := Lib.hid (Box2.below HBP0.out hb)
  replace C := Lib.hid (Below.step C.out hb)
  have Z2 := Lib.hid (Below.size hb); clear hb
  have e1a := HBP0.out.c0; have e1b := HBP0.out.c1
  go_wp2_with fail
  clear e1a e1b
  refine (toMeander_ok _ _ t0 b0 _ (A0.out.below C.out) (D0.out.below C.out) LN0.out LP0.out).mono ?_
  rintro e w2 ⟨sa0v1, sa0v2, rfl, sa0o1, sa0o2, sa0ap, hb⟩
  replace HBP0 := Lib.hid (Box2.below HBP0.out hb)
  replace C := Lib.hid (Below.step C.out hb)
  have Z3 := Lib.hid (Below.size hb); clear hb
  obtain ⟨sa01a, sa01n, sa01c, rfl⟩ := sa0o1.form'; obtain ⟨sa02a, sa02n, sa02c, rfl⟩ := sa0o2.form'
  have Isa01 := Lib.hid (Own.inn sa0o1); have Isa02 := Lib.hid (Own.inn sa0o2); have APsa0 := Lib.hid sa0ap
  have Osa01 := Lib.hid sa0o1; have Osa02 := Lib.hid sa0o2; clear sa0o1 sa0o2 sa0ap
  have e2a := HBP0.out.c0; have e2b := HBP0.out.c1
  go_wp2_with fail
  clear e2a e2b
  refine (HS.out _ _ _ Osa01.out.rd Osa02.out.rd).mono ?_
  rintro e w3 ⟨vsv1, vsv2, rfl, vso1, vso2, vsap, hb⟩
  replace HBP0 := Lib.hid (Box2.below HBP0.out hb)
  replace Osa01 := Lib.hid (Own.below Osa01.out hb)
  replace Osa02 := Lib.hid (Own.below Osa02.out hb)
  replace C := Lib.hid (Below.step C.out hb)
  have Z4 := Lib.hid (Below.size hb); clear hb
  obtain ⟨vs1a, vs1n, vs1c, rfl⟩ := vso1.form'; obtain ⟨vs2a, vs2n, vs2c, rfl⟩ := vso2.form'
  have Ivs1 := Lib.hid (Own.inn vso1); have Ivs2 := Lib.hid (Own.inn vso2); have APvs := Lib.hid vsap
  have Ovs1 := Lib.hid vso1; have Ovs2 := Lib.hid vso2; clear vso1 vso2 vsap
  have hba := Below.alloc1 w3 (.cells #[.slice vs1a vs1n vs1c, .slice vs2a vs2n vs2c] 28)
  replace HBP0 := Lib.hid (Box2.below HBP0.out hba)
  replace Osa01 := Lib.hid (Own.below Osa01.out hba)
  replace Osa02 := Lib.hid (Own.below Osa02.out hba)
  replace Ovs1 := Lib.hid (Own.below Ovs1.out hba)
  replace Ovs2 := Lib.hid (Own.below Ovs2.out hba)
  replace C := Lib.hid (Below.step C.out hba)
  have HBvs := Lib.hid (Box2.new 28 w3 (.slice vs1a vs1n vs1c) (.slice vs2a vs2n vs2c))
  clear hba
  have Z5 : Hid (w3.heap.size < (w3.alloc (.cells #[.slice vs1a vs1n vs1c, .slice vs2a vs2n vs2c] 28)).heap.size) := Lib.hid HBvs.out.lt
  have e3a := HBP0.out.c0; have e3b := HBP0.out.c1
  have e4a := HBvs.out.c0; have e4b := HBvs.out.c1
  go_wp2_with fail
  clear e3a e3b e4a e4b
  refine (toMeander_ok _ _ t0 b0 _ (A0.out.below C.out) (D0.out.below C.out) LN0.out LP0.out).mono ?_
  rintro e w4 ⟨xa0v1, xa0v2, rfl, xa0o1, xa0o2, xa0ap, hb⟩
  replace HBP0 := Lib.hid (Box2.below HBP0.out hb)
  replace HBvs := Lib.hid (Box2.below HBvs.out hb)
  replace Osa01 := Lib.hid (Own.below Osa01.out hb)
  replace Osa02 := Lib.hid (Own.below Osa02.out hb)
  replace Ovs1 := Lib.hid (Own.below Ovs1.out hb)
  replace Ovs2 := Lib.hid (Own.below Ovs2.out hb)
  replace C := Lib.hid (Below.step C.out hb)
  have Z6 := Lib.hid (Below.size hb); clear hb
  obtain ⟨xa01a, xa01n, xa01c, rfl⟩ := xa0o1.form'; obtain ⟨xa02a, xa02n, xa02c, rfl⟩ := xa0o2.form'
  have Ixa01 := Lib.hid (Own.inn xa0o1); have Ixa02 := Lib.hid (Own.inn xa0o2); have APxa0 := Lib.hid xa0ap
  have Oxa01 := Lib.hid xa0o1; have Oxa02 := Lib.hid xa0o2; clear xa0o1 xa0o2 xa0ap
  have hba := Below.alloc1 w4 (.cells #[.slice xa01a xa01n xa01c, .slice xa02a xa02n xa02c] 28)
  replace HBP0 := Lib.hid (Box2.below HBP0.out hba)
  replace HBvs := Lib.hid (Box2.below HBvs.out hba)
  replace Osa01 := Lib.hid (Own.below Osa01.out hba)
  replace Osa02 := Lib.hid (Own.below Osa02.out hba)
  replace Ovs1 := Lib.hid (Own.below Ovs1.out hba)
  replace Ovs2 := Lib.hid (Own.below Ovs2.out hba)
  replace Oxa01 := Lib.hid (Own.below Oxa01.out hba)
  replace Oxa02 := Lib.hid (Own.below Oxa02.out hba)
  replace C := Lib.hid (Below.step C.out hba)
  have HBxa0 := Lib.hid (Box2.new 28 w4 (.slice xa01a xa01n xa01c) (.slice xa02a xa02n xa02c))
  clear hba
  have Z7 : Hid (w4.heap.size < (w4.alloc (.cells #[.slice xa01a xa01n xa01c, .slice xa02a xa02n xa02c] 28)).heap.size) := Lib.hid HBxa0.out.lt
  have e5a := HBP0.out.c0; have e5b := HBP0.out.c1
  have e6a := HBvs.out.c0; have e6b := HBvs.out.c1
  have e7a := HBxa0.out.c0; have e7b := HBxa0.out.c1
  go_wp2_with fail
  clear e5a e5b e6a e6b e7a e7b
  refine (HI.out _ _ _ Oxa01.out.rd Oxa02.out.rd).mono ?_
  rintro e w5 ⟨vgv1, vgv2, rfl, vgo1, vgo2, vgap, hb⟩
  replace HBP0 := Lib.hid (Box2.below HBP0.out hb)
  replace HBvs := Lib.hid (Box2.below HBvs.out hb)
  replace HBxa0 := Lib.hid (Box2.below HBxa0.out hb)
  replace Osa01 := Lib.hid (Own.below Osa01.out hb)
  replace Osa02 := Lib.hid (Own.below Osa02.out hb)
  replace Ovs1 := Lib.hid (Own.below Ovs1.out hb)
  replace Ovs2 := Lib.hid (Own.below Ovs2.out hb)
  replace Oxa01 := Lib.hid (Own.below Oxa01.out hb)
  replace Oxa02 := Lib.hid (Own.below Oxa02.out hb)
  replace C := Lib.hid (Below.step C.out hb)
  have Z8 := Lib.hid (Below.size hb); clear hb
  obtain ⟨vg1a, vg1n, vg1c, rfl⟩ := vgo1.form'; obtain ⟨vg2a, vg2n, vg2c, rfl⟩ := vgo2.form'
  have Ivg1 := Lib.hid (Own.inn vgo1); have Ivg2 := Lib.hid (Own.inn vgo2); have APvg := Lib.hid vgap
  have Ovg1 := Lib.hid vgo1; have Ovg2 := Lib.hid vgo2; clear vgo1 vgo2 vgap
  have hba := Below.alloc1 w5 (.cells #[.slice vg1a vg1n vg1c, .slice vg2a vg2n vg2c] 28)
  replace HBP0 := Lib.hid (Box2.below HBP0.out hba)
  replace HBvs := Lib.hid (Box2.below HBvs.out hba)
  replace HBxa0 := Lib.hid (Box2.below HBxa0.out hba)
  replace Osa01 := Lib.hid (Own.below Osa01.out hba)
  replace Osa02 := Lib.hid (Own.below Osa02.out hba)
  replace Ovs1 := Lib.hid (Own.below Ovs1.out hba)
  replace Ovs2 := Lib.hid (Own.below Ovs2.out hba)
  replace Oxa01 := Lib.hid (Own.below Oxa01.out hba)
  replace Oxa02 := Lib.hid (Own.below Oxa02.out hba)
  replace Ovg1 := Lib.hid (Own.below Ovg1.out hba)
  replace Ovg2 := Lib.hid (Own.below Ovg2.out hba)
  replace C := Lib.hid (Below.step C.out hba)
  have HBvg := Lib.hid (Box2.new 28 w5 (.slice vg1a vg1n vg1c) (.slice vg2a vg2n vg2c))
  clear hba
  have Z9 : Hid (w5.heap.size < (w5.alloc (.cells #[.slice vg1a vg1n vg1c, .slice vg2a vg2n vg2c] 28)).heap.size) := Lib.hid HBvg.out.lt
  have e8a := HBP0.out.c0; have e8b := HBP0.out.c1
  have e9a := HBvs.out.c0; have e9b := HBvs.out.c1
  have e10a := HBxa0.out.c0; have e10b := HBxa0.out.c1
  have e11a := HBvg.out.c0; have e11b := HBvg.out.c1
  go_wp2_with fail
  clear e8a e8b e9a e9b e10a e10b e11a e11b
  refine (eqMeander_ok _ _ _ _ r1 r2 _ Ovg1.out.rd Ovg2.out.rd Ovs1.out.rd Ovs2.out.rd).mono ?_
  rintro e w6 ⟨rfl, hb⟩
  replace HBP0 := Lib.hid (Box2.below HBP0.out hb)
  replace HBvs := Lib.hid (Box2.below HBvs.out hb)
  replace HBxa0 := Lib.hid (Box2.below HBxa0.out hb)
  replace HBvg := Lib.hid (Box2.below HBvg.out hb)
  replace Osa01 := Lib.hid (Own.below Osa01.out hb)
  replace Osa02 := Lib.hid (Own.below Osa02.out hb)
  replace Ovs1 := Lib.hid (Own.below Ovs1.out hb)
  replace Ovs2 := Lib.hid (Own.below Ovs2.out hb)
  replace Oxa01 := Lib.hid (Own.below Oxa01.out hb)
  replace Oxa02 := Lib.hid (Own.below Oxa02.out hb)
  replace Ovg1 := Lib.hid (Own.below Ovg1.out hb)
  replace Ovg2 := Lib.hid (Own.below Ovg2.out hb)
  replace C := Lib.hid (Below.step C.out hb)
  have Z10 := Lib.hid (Below.size hb); clear hb
  go_wp2_with fail
  go_region_held3 (fun w' => Hid (Below w6.heap.size w6 w') ∧ w'.cell? ⟨w4.heap.size, 0, none⟩ = some (.slice xa01a xa01n xa01c) ∧ w'.cell? ⟨w4.heap.size, 1, none⟩ = some (.slice xa02a xa02n xa02c) ∧ w'.cell? ⟨w.heap.size, 0, none⟩ = some (.slice a0 n0 c0) ∧ w'.cell? ⟨w.heap.size, 1, none⟩ = some (.slice d0 p0 q0))
    (first | assumption | exact held_start HBxa0.out HBP0.out | exact held_keep (by assumption) (by assumption))
    (first
      | (go_at_call 13; ((refine (toMeander_ok _ _ t0 b0 _ ((A0.out.below C.out).below (Below.drew (Below.refl _ _))) ((D0.out.below C.out).below (Below.drew (Below.refl _ _))) LN0.out LP0.out).mono ?_); rintro e' wq ⟨yv1, yv2, rfl, yo1, yo2, yap, hb'⟩; have YB : Hid (Below w6.heap.size w6 wq) := ((Below.refl _ w6).drew).trans hb'; have YO1 := Lib.hid yo1; have YO2 := Lib.hid yo2; obtain ⟨y1a, y1n, y1c, rfl⟩ := yo1.form'; obtain ⟨y2a, y2n, y2c, rfl⟩ := yo2.form'))
      | (go_at_call 15; ((refine (eqMeander_ok _ _ _ _ t0 b0 _ (Own.below Oxa01.out YB.out).rd (Own.below Oxa02.out YB.out).rd YO1.out.rd YO2.out.rd).mono ?_); rintro e' w' ⟨rfl, hb'⟩)))
  have hb : Below w6.heap.size w6 w' := held_out (by assumption)
  generalize w' = w7 at *
  replace HBP0 := Lib.hid (Box2.below HBP0.out hb)
  replace HBvs := Lib.hid (Box2.below HBvs.out hb)
  replace HBxa0 := Lib.hid (Box2.below HBxa0.out hb)
  replace HBvg := Lib.hid (Box2.below HBvg.out hb)
  replace Osa01 := Lib.hid (Own.below Osa01.out hb)
  replace Osa02 := Lib.hid (Own.below Osa02.out hb)
  replace Ovs1 := Lib.hid (Own.below Ovs1.out hb)
  replace Ovs2 := Lib.hid (Own.below Ovs2.out hb)
  replace Oxa01 := Lib.hid (Own.below Oxa01.out hb)
  replace Oxa02 := Lib.hid (Own.below Oxa02.out hb)
  replace Ovg1 := Lib.hid (Own.below Ovg1.out hb)
  replace Ovg2 := Lib.hid (Own.below Ovg2.out hb)
  replace C := Lib.hid (Below.step C.out hb)
  have Z11 := Lib.hid (Below.size hb); clear hb
  have yclear : True := trivial
  have e12a := HBP0.out.c0; have e12b := HBP0.out.c1
  have e13a := HBvs.out.c0; have e13b := HBvs.out.c1
  have e14a := HBxa0.out.c0; have e14b := HBxa0.out.c1
  have e15a := HBvg.out.c0; have e15b := HBvg.out.c1
  go_wp2_with fail
  clear e12a e12b e13a e13b e14a e14b e15a e15b
  refine (markMeander_any (w3.alloc (.cells #[.slice vs1a vs1n vs1c, .slice vs2a vs2n vs2c] 28)).heap.size w4.heap.size _ _ t0 b0 1 _ Oxa01.out Oxa02.out Ixa01.out Ixa02.out (by have := Z0.out; have := Z1.out; have := Z2.out; have := Z3.out; have := Z4.out; have := Z5.out; have := Z6.out; have := Z7.out; have := Z8.out; have := Z9.out; have := Z10.out; have := Z11.out; omega) APxa0.out (by omega) (by have := LN0.out; have := LP0.out; have := HR.out.1; have := HR.out.2; omega) (by have := LN0.out; have := LP0.out; have := HR.out.1; have := HR.out.2; omega) (by have := LN0.out; have := LP0.out; have := HR.out.1; have := HR.out.2; omega)).mono ?_
  rintro e w8 ⟨rfl, ho1, ho2, hg⟩
  replace C := Lib.hid (Within.below C.out hg (by have := Z0.out; have := Z1.out; have := Z2.out; have := Z3.out; have := Z4.out; have := Z5.out; have := Z6.out; have := Z7.out; have := Z8.out; have := Z9.out; have := Z10.out; have := Z11.out; (try simp only [World.size_alloc] at *); omega) (by have := Z0.out; have := Z1.out; have := Z2.out; have := Z3.out; have := Z4.out; have := Z5.out; have := Z6.out; have := Z7.out; have := Z8.out; have := Z9.out; have := Z10.out; have := Z11.out; (try simp only [World.size_alloc] at *); omega))
  replace HBP0 := Lib.hid (Box2.within HBP0.out hg (by have := Z0.out; have := Z1.out; have := Z2.out; have := Z3.out; have := Z4.out; have := Z5.out; have := Z6.out; have := Z7.out; have := Z8.out; have := Z9.out; have := Z10.out; have := Z11.out; (try simp only [World.size_alloc] at *); omega))
  replace HBvs := Lib.hid (Box2.within HBvs.out hg (by have := Z0.out; have := Z1.out; have := Z2.out; have := Z3.out; have := Z4.out; have := Z5.out; have := Z6.out; have := Z7.out; have := Z8.out; have := Z9.out; have := Z10.out; have := Z11.out; (try simp only [World.size_alloc] at *); omega))
  replace HBxa0 := Lib.hid (Box2.within HBxa0.out hg (by have := Z0.out; have := Z1.out; have := Z2.out; have := Z3.out; have := Z4.out; have := Z5.out; have := Z6.out; have := Z7.out; have := Z8.out; have := Z9.out; have := Z10.out; have := Z11.out; (try simp only [World.size_alloc] at *); omega))
  replace HBvg := Lib.hid (Box2.within HBvg.out hg (by have := Z0.out; have := Z1.out; have := Z2.out; have := Z3.out; have := Z4.out; have := Z5.out; have := Z6.out; have := Z7.out; have := Z8.out; have := Z9.out; have := Z10.out; have := Z11.out; (try simp only [World.size_alloc] at *); omega))
  replace Osa01 := Lib.hid (Own.within Osa01.out hg Isa01.out (by have := Z0.out; have := Z1.out; have := Z2.out; have := Z3.out; have := Z4.out; have := Z5.out; have := Z6.out; have := Z7.out; have := Z8.out; have := Z9.out; have := Z10.out; have := Z11.out; (try simp only [World.size_alloc] at *); omega))
  replace Osa02 := Lib.hid (Own.within Osa02.out hg Isa02.out (by have := Z0.out; have := Z1.out; have := Z2.out; have := Z3.out; have := Z4.out; have := Z5.out; have := Z6.out; have := Z7.out; have := Z8.out; have := Z9.out; have := Z10.out; have := Z11.out; (try simp only [World.size_alloc] at *); omega))
  replace Ovs1 := Lib.hid (Own.within Ovs1.out hg Ivs1.out (by have := Z0.out; have := Z1.out; have := Z2.out; have := Z3.out; have := Z4.out; have := Z5.out; have := Z6.out; have := Z7.out; have := Z8.out; have := Z9.out; have := Z10.out; have := Z11.out; (try simp only [World.size_alloc] at *); omega))
  replace Ovs2 := Lib.hid (Own.within Ovs2.out hg Ivs2.out (by have := Z0.out; have := Z1.out; have := Z2.out; have := Z3.out; have := Z4.out; have := Z5.out; have := Z6.out; have := Z7.out; have := Z8.out; have := Z9.out; have := Z10.out; have := Z11.out; (try simp only [World.size_alloc] at *); omega))
  replace Ovg1 := Lib.hid (Own.within Ovg1.out hg Ivg1.out (by have := Z0.out; have := Z1.out; have := Z2.out; have := Z3.out; have := Z4.out; have := Z5.out; have := Z6.out; have := Z7.out; have := Z8.out; have := Z9.out; have := Z10.out; have := Z11.out; (try simp only [World.size_alloc] at *); omega))
  replace Ovg2 := Lib.hid (Own.within Ovg2.out hg Ivg2.out (by have := Z0.out; have := Z1.out; have := Z2.out; have := Z3.out; have := Z4.out; have := Z5.out; have := Z6.out; have := Z7.out; have := Z8.out; have := Z9.out; have := Z10.out; have := Z11.out; (try simp only [World.size_alloc] at *); omega))
  have Z12 := Lib.hid hg.size; clear hg
  replace Oxa01 := Lib.hid ho1; replace Oxa02 := Lib.hid ho2; clear ho1 ho2
  have e16a := HBP0.out.c0; have e16b := HBP0.out.c1
  have e17a := HBvs.out.c0; have e17b := HBvs.out.c1
  have e18a := HBxa0.out.c0; have e18b := HBxa0.out.c1
  have e19a := HBvg.out.c0; have e19b := HBvg.out.c1
  go_wp2_with fail
  clear e16a e16b e17a e17b e18a e18b e19a e19b
  refine (eqMeander_ok _ _ _ _ r1 r2 _ Ovg1.out.rd Ovg2.out.rd Ovs1.out.rd Ovs2.out.rd).mono ?_
  rintro e w9 ⟨rfl, hb⟩
  replace HBP0 := Lib.hid (Box2.below HBP0.out hb)
  replace HBvs := Lib.hid (Box2.below HBvs.out hb)
  replace HBxa0 := Lib.hid (Box2.below HBxa0.out hb)
  replace HBvg := Lib.hid (Box2.below HBvg.out hb)
  replace Osa01 := Lib.hid (Own.below Osa01.out hb)
  replace Osa02 := Lib.hid (Own.below Osa02.out hb)
  replace Ovs1 := Lib.hid (Own.below Ovs1.out hb)
  replace Ovs2 := Lib.hid (Own.below Ovs2.out hb)
  replace Oxa01 := Lib.hid (Own.below Oxa01.out hb)
  replace Oxa02 := Lib.hid (Own.below Oxa02.out hb)
  replace Ovg1 := Lib.hid (Own.below Ovg1.out hb)
  replace Ovg2 := Lib.hid (Own.below Ovg2.out hb)
  replace C := Lib.hid (Below.step C.out hb)
  have Z13 := Lib.hid (Below.size hb); clear hb
  have e20a := HBP0.out.c0; have e20b := HBP0.out.c1
  have e21a := HBvs.out.c0; have e21b := HBvs.out.c1
  have e22a := HBxa0.out.c0; have e22b := HBxa0.out.c1
  have e23a := HBvg.out.c0; have e23b := HBvg.out.c1
  go_wp2_with fail
  clear e20a e20b e21a e21b e22a e22b e23a e23b
  refine (markMeander_any (w4.alloc (.cells #[.slice xa01a xa01n xa01c, .slice xa02a xa02n xa02c] 28)).heap.size w5.heap.size _ _ r1 r2 1 _ Ovg1.out Ovg2.out Ivg1.out Ivg2.out (by have := Z0.out; have := Z1.out; have := Z2.out; have := Z3.out; have := Z4.out; have := Z5.out; have := Z6.out; have := Z7.out; have := Z8.out; have := Z9.out; have := Z10.out; have := Z11.out; have := Z12.out; have := Z13.out; omega) APvg.out (by omega) (by have := LN0.out; have := LP0.out; have := HR.out.1; have := HR.out.2; omega) (by have := LN0.out; have := LP0.out; have := HR.out.1; have := HR.out.2; omega) (by have := LN0.out; have := LP0.out; have := HR.out.1; have := HR.out.2; omega)).mono ?_
  rintro e w10 ⟨rfl, ho1, ho2, hg⟩
  replace C := Lib.hid (Within.below C.out hg (by have := Z0.out; have := Z1.out; have := Z2.out; have := Z3.out; have := Z4.out; have := Z5.out; have := Z6.out; have := Z7.out; have := Z8.out; have := Z9.out; have := Z10.out; have := Z11.out; have := Z12.out; have := Z13.out; (try simp only [World.size_alloc] at *); omega) (by have := Z0.out; have := Z1.out; have := Z2.out; have := Z3.out; have := Z4.out; have := Z5.out; have := Z6.out; have := Z7.out; have := Z8.out; have := Z9.out; have := Z10.out; have := Z11.out; have := Z12.out; have := Z13.out; (try simp only [World.size_alloc] at *); omega))
  replace HBP0 := Lib.hid (Box2.within HBP0.out hg (by have := Z0.out; have := Z1.out; have := Z2.out; have := Z3.out; have := Z4.out; have := Z5.out; have := Z6.out; have := Z7.out; have := Z8.out; have := Z9.out; have := Z10.out; have := Z11.out; have := Z12.out; have := Z13.out; (try simp only [World.size_alloc] at *); omega))
  replace HBvs := Lib.hid (Box2.within HBvs.out hg (by have := Z0.out; have := Z1.out; have := Z2.out; have := Z3.out; have := Z4.out; have := Z5.out; have := Z6.out; have := Z7.out; have := Z8.out; have := Z9.out; have := Z10.out; have := Z11.out; have := Z12.out; have := Z13.out; (try simp only [World.size_alloc] at *); omega))
  replace HBxa0 := Lib.hid (Box2.within HBxa0.out hg (by have := Z0.out; have := Z1.out; have := Z2.out; have := Z3.out; have := Z4.out; have := Z5.out; have := Z6.out; have := Z7.out; have := Z8.out; have := Z9.out; have := Z10.out; have := Z11.out; have := Z12.out; have := Z13.out; (try simp only [World.size_alloc] at *); omega))
  replace HBvg := Lib.hid (Box2.within HBvg.out hg (by have := Z0.out; have := Z1.out; have := Z2.out; have := Z3.out; have := Z4.out; have := Z5.out; have := Z6.out; have := Z7.out; have := Z8.out; have := Z9.out; have := Z10.out; have := Z11.out; have := Z12.out; have := Z13.out; (try simp only [World.size_alloc] at *); omega))
  replace Osa01 := Lib.hid (Own.within Osa01.out hg Isa01.out (by have := Z0.out; have := Z1.out; have := Z2.out; have := Z3.out; have := Z4.out; have := Z5.out; have := Z6.out; have := Z7.out; have := Z8.out; have := Z9.out; have := Z10.out; have := Z11.out; have := Z12.out; have := Z13.out; (try simp only [World.size_alloc] at *); omega))
  replace Osa02 := Lib.hid (Own.within Osa02.out hg Isa02.out (by have := Z0.out; have := Z1.out; have := Z2.out; have := Z3.out; have := Z4.out; have := Z5.out; have := Z6.out; have := Z7.out; have := Z8.out; have := Z9.out; have := Z10.out; have := Z11.out; have := Z12.out; have := Z13.out; (try simp only [World.size_alloc] at *); omega))
  replace Ovs1 := Lib.hid (Own.within Ovs1.out hg Ivs1.out (by have := Z0.out; have := Z1.out; have := Z2.out; have := Z3.out; have := Z4.out; have := Z5.out; have := Z6.out; have := Z7.out; have := Z8.out; have := Z9.out; have := Z10.out; have := Z11.out; have := Z12.out; have := Z13.out; (try simp only [World.size_alloc] at *); omega))
  replace Ovs2 := Lib.hid (Own.within Ovs2.out hg Ivs2.out (by have := Z0.out; have := Z1.out; have := Z2.out; have := Z3.out; have := Z4.out; have := Z5.out; have := Z6.out; have := Z7.out; have := Z8.out; have := Z9.out; have := Z10.out; have := Z11.out; have := Z12.out; have := Z13.out; (try simp only [World.size_alloc] at *); omega))
  replace Oxa01 := Lib.hid (Own.within Oxa01.out hg Ixa01.out (by have := Z0.out; have := Z1.out; have := Z2.out; have := Z3.out; have := Z4.out; have := Z5.out; have := Z6.out; have := Z7.out; have := Z8.out; have := Z9.out; have := Z10.out; have := Z11.out; have := Z12.out; have := Z13.out; (try simp only [World.size_alloc] at *); omega))
  replace Oxa02 := Lib.hid (Own.within Oxa02.out hg Ixa02.out (by have := Z0.out; have := Z1.out; have := Z2.out; have := Z3.out; have := Z4.out; have := Z5.out; have := Z6.out; have := Z7.out; have := Z8.out; have := Z9.out; have := Z10.out; have := Z11.out; have := Z12.out; have := Z13.out; (try simp only [World.size_alloc] at *); omega))
  have Z14 := Lib.hid hg.size; clear hg
  replace Ovg1 := Lib.hid ho1; replace Ovg2 := Lib.hid ho2; clear ho1 ho2
  have e24a := HBP0.out.c0; have e24b := HBP0.out.c1
  have e25a := HBvs.out.c0; have e25b := HBvs.out.c1
  have e26a := HBxa0.out.c0; have e26b := HBxa0.out.c1
  have e27a := HBvg.out.c0; have e27b := HBvg.out.c1
  go_wp2_with fail
  clear e24a e24b e25a e25b e26a e26b e27a e27b
  refine (heldMeander_ok _ _ 1 r1.length r2.length _ Ovg1.out.rd Ovg2.out.rd (by omega) (by omega) (by have := LN0.out; have := LP0.out; have := HR.out.1; have := HR.out.2; omega) (by have := LN0.out; have := LP0.out; have := HR.out.1; have := HR.out.2; omega)).mono ?_
  rintro e w11 ⟨rfl, hb⟩
  replace HBP0 := Lib.hid (Box2.below HBP0.out hb)
  replace HBvs := Lib.hid (Box2.below HBvs.out hb)
  replace HBxa0 := Lib.hid (Box2.below HBxa0.out hb)
  replace HBvg := Lib.hid (Box2.below HBvg.out hb)
  replace Osa01 := Lib.hid (Own.below Osa01.out hb)
  replace Osa02 := Lib.hid (Own.below Osa02.out hb)
  replace Ovs1 := Lib.hid (Own.below Ovs1.out hb)
  replace Ovs2 := Lib.hid (Own.below Ovs2.out hb)
  replace Oxa01 := Lib.hid (Own.below Oxa01.out hb)
  replace Oxa02 := Lib.hid (Own.below Oxa02.out hb)
  replace Ovg1 := Lib.hid (Own.below Ovg1.out hb)
  replace Ovg2 := Lib.hid (Own.below Ovg2.out hb)
  replace C := Lib.hid (Below.step C.out hb)
  have Z15 := Lib.hid (Below.size hb); clear hb
  have e28a := HBP0.out.c0; have e28b := HBP0.out.c1
  have e29a := HBvs.out.c0; have e29b := HBvs.out.c1
  have e30a := HBxa0.out.c0; have e30b := HBxa0.out.c1
  have e31a := HBvg.out.c0; have e31b := HBvg.out.c1
  go_wp2_with fail
  clear e28a e28b e29a e29b e30a e30b e31a e31b
  refine (toMeander_ok _ _ t0 b0 _ (A0.out.below C.out) (D0.out.below C.out) LN0.out LP0.out).mono ?_
  rintro e w12 ⟨za0v1, za0v2, rfl, za0o1, za0o2, za0ap, hb⟩
  replace HBP0 := Lib.hid (Box2.below HBP0.out hb)
  replace HBvs := Lib.hid (Box2.below HBvs.out hb)
  replace HBxa0 := Lib.hid (Box2.below HBxa0.out hb)
  replace HBvg := Lib.hid (Box2.below HBvg.out hb)
  replace Osa01 := Lib.hid (Own.below Osa01.out hb)
  replace Osa02 := Lib.hid (Own.below Osa02.out hb)
  replace Ovs1 := Lib.hid (Own.below Ovs1.out hb)
  replace Ovs2 := Lib.hid (Own.below Ovs2.out hb)
  replace Oxa01 := Lib.hid (Own.below Oxa01.out hb)
  replace Oxa02 := Lib.hid (Own.below Oxa02.out hb)
  replace Ovg1 := Lib.hid (Own.below Ovg1.out hb)
  replace Ovg2 := Lib.hid (Own.below Ovg2.out hb)
  replace C := Lib.hid (Below.step C.out hb)
  have Z16 := Lib.hid (Below.size hb); clear hb
  obtain ⟨za01a, za01n, za01c, rfl⟩ := za0o1.form'; obtain ⟨za02a, za02n, za02c, rfl⟩ := za0o2.form'
  have Iza01 := Lib.hid (Own.inn za0o1); have Iza02 := Lib.hid (Own.inn za0o2); have APza0 := Lib.hid za0ap
  have Oza01 := Lib.hid za0o1; have Oza02 := Lib.hid za0o2; clear za0o1 za0o2 za0ap
  have e32a := HBP0.out.c0; have e32b := HBP0.out.c1
  have e33a := HBvs.out.c0; have e33b := HBvs.out.c1
  have e34a := HBxa0.out.c0; have e34b := HBxa0.out.c1
  have e35a := HBvg.out.c0; have e35b := HBvg.out.c1
  go_wp2_with fail
  clear e32a e32b e33a e33b e34a e34b e35a e35b
  refine (HI.out _ _ _ Oza01.out.rd Oza02.out.rd).mono ?_
  rintro e w13 ⟨vhv1, vhv2, rfl, vho1, vho2, vhap, hb⟩
  replace HBP0 := Lib.hid (Box2.below HBP0.out hb)
  replace HBvs := Lib.hid (Box2.below HBvs.out hb)
  replace HBxa0 := Lib.hid (Box2.below HBxa0.out hb)
  replace HBvg := Lib.hid (Box2.below HBvg.out hb)
  replace Osa01 := Lib.hid (Own.below Osa01.out hb)
  replace Osa02 := Lib.hid (Own.below Osa02.out hb)
  replace Ovs1 := Lib.hid (Own.below Ovs1.out hb)
  replace Ovs2 := Lib.hid (Own.below Ovs2.out hb)
  replace Oxa01 := Lib.hid (Own.below Oxa01.out hb)
  replace Oxa02 := Lib.hid (Own.below Oxa02.out hb)
  replace Ovg1 := Lib.hid (Own.below Ovg1.out hb)
  replace Ovg2 := Lib.hid (Own.below Ovg2.out hb)
  replace Oza01 := Lib.hid (Own.below Oza01.out hb)
  replace Oza02 := Lib.hid (Own.below Oza02.out hb)
  replace C := Lib.hid (Below.step C.out hb)
  have Z17 := Lib.hid (Below.size hb); clear hb
  obtain ⟨vh1a, vh1n, vh1c, rfl⟩ := vho1.form'; obtain ⟨vh2a, vh2n, vh2c, rfl⟩ := vho2.form'
  have Ivh1 := Lib.hid (Own.inn vho1); have Ivh2 := Lib.hid (Own.inn vho2); have APvh := Lib.hid vhap
  have Ovh1 := Lib.hid vho1; have Ovh2 := Lib.hid vho2; clear vho1 vho2 vhap
  have hba := Below.alloc1 w13 (.cells #[.slice vh1a vh1n vh1c, .slice vh2a vh2n vh2c] 28)
  replace HBP0 := Lib.hid (Box2.below HBP0.out hba)
  replace HBvs := Lib.hid (Box2.below HBvs.out hba)
  replace HBxa0 := Lib.hid (Box2.below HBxa0.out hba)
  replace HBvg := Lib.hid (Box2.below HBvg.out hba)
  replace Osa01 := Lib.hid (Own.below Osa01.out hba)
  replace Osa02 := Lib.hid (Own.below Osa02.out hba)
  replace Ovs1 := Lib.hid (Own.below Ovs1.out hba)
  replace Ovs2 := Lib.hid (Own.below Ovs2.out hba)
  replace Oxa01 := Lib.hid (Own.below Oxa01.out hba)
  replace Oxa02 := Lib.hid (Own.below Oxa02.out hba)
  replace Ovg1 := Lib.hid (Own.below Ovg1.out hba)
  replace Ovg2 := Lib.hid (Own.below Ovg2.out hba)
  replace Oza01 := Lib.hid (Own.below Oza01.out hba)
  replace Oza02 := Lib.hid (Own.below Oza02.out hba)
  replace Ovh1 := Lib.hid (Own.below Ovh1.out hba)
  replace Ovh2 := Lib.hid (Own.below Ovh2.out hba)
  replace C := Lib.hid (Below.step C.out hba)
  have HBvh := Lib.hid (Box2.new 28 w13 (.slice vh1a vh1n vh1c) (.slice vh2a vh2n vh2c))
  clear hba
  have Z18 : Hid (w13.heap.size < (w13.alloc (.cells #[.slice vh1a vh1n vh1c, .slice vh2a vh2n vh2c] 28)).heap.size) := Lib.hid HBvh.out.lt
  have e36a := HBP0.out.c0; have e36b := HBP0.out.c1
  have e37a := HBvs.out.c0; have e37b := HBvs.out.c1
  have e38a := HBxa0.out.c0; have e38b := HBxa0.out.c1
  have e39a := HBvg.out.c0; have e39b := HBvg.out.c1
  have e40a := HBvh.out.c0; have e40b := HBvh.out.c1
  go_wp2_with fail
  clear e36a e36b e37a e37b e38a e38b e39a e39b e40a e40b
  refine (eqMeander_ok _ _ _ _ r1 r2 _ Ovh1.out.rd Ovh2.out.rd Ovs1.out.rd Ovs2.out.rd).mono ?_
  rintro e w14 ⟨rfl, hb⟩
  replace HBP0 := Lib.hid (Box2.below HBP0.out hb)
  replace HBvs := Lib.hid (Box2.below HBvs.out hb)
  replace HBxa0 := Lib.hid (Box2.below HBxa0.out hb)
  replace HBvg := Lib.hid (Box2.below HBvg.out hb)
  replace HBvh := Lib.hid (Box2.below HBvh.out hb)
  replace Osa01 := Lib.hid (Own.below Osa01.out hb)
  replace Osa02 := Lib.hid (Own.below Osa02.out hb)
  replace Ovs1 := Lib.hid (Own.below Ovs1.out hb)
  replace Ovs2 := Lib.hid (Own.below Ovs2.out hb)
  replace Oxa01 := Lib.hid (Own.below Oxa01.out hb)
  replace Oxa02 := Lib.hid (Own.below Oxa02.out hb)
  replace Ovg1 := Lib.hid (Own.below Ovg1.out hb)
  replace Ovg2 := Lib.hid (Own.below Ovg2.out hb)
  replace Oza01 := Lib.hid (Own.below Oza01.out hb)
  replace Oza02 := Lib.hid (Own.below Oza02.out hb)
  replace Ovh1 := Lib.hid (Own.below Ovh1.out hb)
  replace Ovh2 := Lib.hid (Own.below Ovh2.out hb)
  replace C := Lib.hid (Below.step C.out hb)
  have Z19 := Lib.hid (Below.size hb); clear hb
  have e41a := HBP0.out.c0; have e41b := HBP0.out.c1
  have e42a := HBvs.out.c0; have e42b := HBvs.out.c1
  have e43a := HBxa0.out.c0; have e43b := HBxa0.out.c1
  have e44a := HBvg.out.c0; have e44b := HBvg.out.c1
  have e45a := HBvh.out.c0; have e45b := HBvh.out.c1
  go_wp2_with fail
  clear e41a e41b e42a e42b e43a e43b e44a e44b e45a e45b
  refine (heldMeander_ok _ _ 1 r1.length r2.length _ Ovg1.out.rd Ovg2.out.rd (by omega) (by omega) (by have := LN0.out; have := LP0.out; have := HR.out.1; have := HR.out.2; omega) (by have := LN0.out; have := LP0.out; have := HR.out.1; have := HR.out.2; omega)).mono ?_
  rintro e w15 ⟨rfl, hb⟩
  replace HBP0 := Lib.hid (Box2.below HBP0.out hb)
  replace HBvs := Lib.hid (Box2.below HBvs.out hb)
  replace HBxa0 := Lib.hid (Box2.below HBxa0.out hb)
  replace HBvg := Lib.hid (Box2.below HBvg.out hb)
  replace HBvh := Lib.hid (Box2.below HBvh.out hb)
  replace Osa01 := Lib.hid (Own.below Osa01.out hb)
  replace Osa02 := Lib.hid (Own.below Osa02.out hb)
  replace Ovs1 := Lib.hid (Own.below Ovs1.out hb)
  replace Ovs2 := Lib.hid (Own.below Ovs2.out hb)
  replace Oxa01 := Lib.hid (Own.below Oxa01.out hb)
  replace Oxa02 := Lib.hid (Own.below Oxa02.out hb)
  replace Ovg1 := Lib.hid (Own.below Ovg1.out hb)
  replace Ovg2 := Lib.hid (Own.below Ovg2.out hb)
  replace Oza01 := Lib.hid (Own.below Oza01.out hb)
  replace Oza02 := Lib.hid (Own.below Oza02.out hb)
  replace Ovh1 := Lib.hid (Own.below Ovh1.out hb)
  replace Ovh2 := Lib.hid (Own.below Ovh2.out hb)
  replace C := Lib.hid (Below.step C.out hb)
  have Z20 := Lib.hid (Below.size hb); clear hb
  go_wp2
  go_ret
  exact ⟨rfl, C.out⟩

set_option maxHeartbeats 2000000 in
theorem walk_OutsideOf (a0 : Option Addr) (len0 cap0 : Nat) (z0 : List Int) (d0 : Option Addr) (pen0 qap0 : Nat) (y0 : List Int) (a1 : Int) (a2 : Int) (w : World) (w0 : RowIn w a0 len0 cap0 z0) (v0 : RowIn w d0 pen0 qap0 y0) (w1 : (Lit.int .i64 a1).wf = true) (w2 : (Lit.int .i64 a2).wf = true) :
    Calls Try.prog 6 #[.agg #[.slice a0 len0 cap0, .slice d0 pen0 qap0], .int .i64 a1, .int .i64 a2] w (Good w) := by
  have Gw0 : len0 ≤ 9223372036854775807 := by rcases w0 with ⟨_, q1, q2, _⟩ | ⟨_, _, q1, q2, _⟩ <;> first | (unfold maxLen at q2; omega) | omega
  have Gv0 : pen0 ≤ 9223372036854775807 := by rcases v0 with ⟨_, q1, q2, _⟩ | ⟨_, _, q1, q2, _⟩ <;> first | (unfold maxLen at q2; omega) | omega
  by_cases hall : len0 + pen0 ≤ 1048576
  · exact core_OutsideOf a0 d0 len0 cap0 pen0 qap0 (z0.take len0) (y0.take pen0) a1 a2 (res1_OutsideOf (z0.take len0) (y0.take pen0) a1 a2) (res2_OutsideOf (z0.take len0) (y0.take pen0) a1 a2) (ok_OutsideOf (z0.take len0) (y0.take pen0) a1 a2) w (RowIn.rd w0) (RowIn.rd v0)   hall (fun w u50 v50 k0 j0 => spec_OutsideOf (z0.take len0) (y0.take pen0) a1 a2 w u50 v50 k0 j0 (by rw [RowIn.len w0]; omega) (by rw [RowIn.len v0]; omega)  ) (fun w u50 v50 k0 j0 => impl_OutsideOf (z0.take len0) (y0.take pen0) a1 a2 w u50 v50 k0 j0 (by rw [RowIn.len w0]; omega) (by rw [RowIn.len v0]; omega)  ) (len_OutsideOf (z0.take len0) (y0.take pen0) a1 a2)
  · clear w0 v0 w1 w2
    have k := cells_new w (.slice a0 len0 cap0) (.slice d0 pen0 qap0) 24
    obtain ⟨k0, k1⟩ := k
    go_enter Try.func6, Try.ntmps6
    go_wp2_with fail
    refine (szMeander_no a0 d0 len0 pen0 cap0 qap0 1048576 _ (by omega) (by omega) (by omega) (by omega) (by omega)).mono ?_
    rintro e w1 ⟨rfl, hb⟩
    go_wp2
    go_ret
    exact ⟨rfl, Below.step (Below.alloc1 w _) hb⟩
end Go.Proofs.Ytaeeopdiodaiaaa

namespace Go.Proofs.Ytaeeopdiodaiaaa.fnExactOutsideOf
open Go.ChangeShapes Go.WideShapes Go.ChangeAt Go.RowKit
open Go.ChangeMaps (open_string shut_string)
open Go.Joins (open_agg2 open_agg3)
set_option linter.unusedVariables false
set_option linter.unusedSimpArgs false

theorem own : ownKnob Try.prog.godebug = none := by kernel_rfl
theorem laidOut : laidOutB Try.prog = true := by kernel_rfl

theorem cellsM : Try.prog.cellsOf 24 = 2 := by kernel_rfl

set_option maxRecDepth 100000 in
theorem lifted (os : Os) (started : os.Started) (H : Type) (enc : TypeId × Value → H) :
    ReturnsInHanded {} Try.checked os 6 .any (Rows.fnExactOutsideOfSpec.pre6 enc Try.prog Try.f6 Rows.fnExactOutsideOfRow.domain false) (Rows.fnExactOutsideOfSpec.post enc Try.prog Try.f6 false true false false) := by
  refine returnsInHanded_of_change (C := Try.checked) own started (by kernel_rfl) Try.func6
    (ChangeSpec.witness6 (enc := enc) (C := Try.checked) false ⟨#[], #[.agg #[.slice none 0 0, .slice none 0 0], .int .i64 0, .int .i64 0], []⟩ 8 (by kernel_rfl) (by kernel_rfl) (by kernel_rfl) (by kernel_rfl)) ?_
  intro W base args ds gs before hval0 hW hcnd _
  have hval : ∀ (j : Nat) t v, Try.f6.params[j]? = some t → args[j]? = some v → Value.okWide Try.prog W .any base t v := hval0
  have hW' := hW
  obtain ⟨p, q, hA0, hV, rfl, hfz, hnd⟩ := hW
  have hA : DataW.TrodAll enc Try.prog W 0 (fun _ => true) true Try.f6.params.toList args.toList ds p := hA0
  rw [Try.params6] at hA hval
  obtain ⟨v0, vs0, d0, ds0, p0, q0, hargs, rfl, rfl, h0, r0⟩ := trodAll_cons hA
  obtain ⟨v1, vs1, d1, ds1, p1, q1, rfl, rfl, rfl, h1, r1⟩ := trodAll_cons r0
  obtain ⟨v2, vs2, d2, ds2, p2, q2, rfl, rfl, rfl, h2, r2⟩ := trodAll_cons r1
  obtain ⟨rfl, rfl, rfl⟩ := trodAll_nil r2
  obtain rfl : args = #[v0, v1, v2] := by cases args; simp_all
  obtain ⟨rfl, rfl⟩ := trodVars_none hV
  have k0 := h0
  have lt0 : ∀ x ∈ p0, x.block < W.heap.size := by obtain ⟨m, hm⟩ := k0; exact DataW.trod_lt m _ _ _ hm
  obtain ⟨u0, v0x, y00, y01, fu0, rfl, rfl, rfl, f00, f01⟩ := open_agg2 Try.underlying24 (by kernel_rfl) cellsM (hval 0 24 v0 rfl rfl) h0
  obtain ⟨a0, len0, cap0, z0, rfl, w0⟩ : ∃ a l c zs, u0 = .slice a l c ∧ RowIn W a l c zs := by
    rcases open_ints Try.underlying22 Try.underlying3 (by kernel_rfl) f00 with ⟨hcs, _⟩ | ⟨x, l, c, zs, hcs, _, hl, hm, hz, _, hcell, hwz⟩
    · simp at hcs
      subst hcs
      exact ⟨none, 0, 0, [], rfl, .inl ⟨rfl, rfl, rfl, rfl⟩⟩
    · simp at hcs
      subst hcs
      exact ⟨some x, l, c, zs, rfl, .inr ⟨_, rfl, hl, hm, by simpa using hz, hcell, hwz⟩⟩
  obtain ⟨d0, pen0, qap0, y0, rfl, v0⟩ : ∃ a l c zs, v0x = .slice a l c ∧ RowIn W a l c zs := by
    rcases open_ints Try.underlying22 Try.underlying3 (by kernel_rfl) f01 with ⟨hcs, _⟩ | ⟨x, l, c, zs, hcs, _, hl, hm, hz, _, hcell, hwz⟩
    · simp at hcs
      subst hcs
      exact ⟨none, 0, 0, [], rfl, .inl ⟨rfl, rfl, rfl, rfl⟩⟩
    · simp at hcs
      subst hcs
      exact ⟨some x, l, c, zs, rfl, .inr ⟨_, rfl, hl, hm, by simpa using hz, hcell, hwz⟩⟩
  obtain ⟨a1, rfl, rfl, rfl, w1⟩ := open_int Try.underlying3 (hval 1 3 v1 rfl rfl) h1
  obtain ⟨a2, rfl, rfl, rfl, w2⟩ := open_int Try.underlying3 (hval 2 3 v2 rfl rfl) h2
  clear hA0 hval0
  refine (walk_OutsideOf a0 len0 cap0 z0 d0 pen0 qap0 y0 a1 a2 W w0 v0 w1 w2).mono fun e W' ⟨he, bel⟩ => ?_
  subst he
  exact ⟨_, rfl, _, _, _, [], _, [], hW', trodAll_mk1 (shut_bool Try.underlying4 _), (trodAll_cons_mk (Below.trod laidOut (by kernel_rfl) (of_decide_eq_true (by kernel_rfl)) k0 bel lt0) (trodAll_cons_mk (shut_int Try.underlying3 w1) (trodAll_cons_mk (shut_int Try.underlying3 w2) trodAll_mk0))), rfl, bel.frame _, fun h => by cases h⟩

theorem over : Rows.fnExactOutsideOfRow.holds Try.pinned (OpenSpec.ofChange Rows.fnExactOutsideOfSpec) :=
  OpenClaim.holds_of_wide 6 Try.f6 rfl rfl rfl rfl rfl rfl rfl ⟨rfl, rfl, rfl, rfl, rfl⟩ rfl rfl rfl rfl rfl (by kernel_rfl) Try.func6 (by kernel_rfl)
    (of_decide_eq_true (by kernel_rfl)) (by unfold Func.isWrapper; first | (rw [if_pos (by decide +kernel)]; kernel_rfl) | (rw [if_neg (by decide +kernel)]; exact ⟨rfl, rfl⟩))
    (fun os started H enc _ => lifted os started H enc)

theorem proved : Rows.FnExactOutsideOfSaid := over
#print axioms proved
end Go.Proofs.Ytaeeopdiodaiaaa.fnExactOutsideOf
