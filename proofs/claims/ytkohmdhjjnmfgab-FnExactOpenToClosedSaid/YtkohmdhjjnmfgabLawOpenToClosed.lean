/-
  FnExactOpenToClosed answers true at every input that can be read, and writes into nothing that was there before the call: the program's function answers as the model's does, writes into no argument, and its answer owns its memory.
  Conditions: none but the row's own.
-/
import Derived.Test.YtkohmdhjjnmfgabRows
import Derived.ProofKit
import Derived.OpenShut
import Derived.ShutString
import Derived.ChangeOld
import Derived.Below
import Derived.Lib.SmallJoins
import Derived.Test.YtkohmdhjjnmfgabMeander
import Derived.Deep.RegionHeld3
import Derived.Deep.DeepCutAuto
import Derived.Test.YtkohmdhjjnmfgabWdOtcS
namespace Go.Proofs.Ytkohmdhjjnmfgab
open Go.RowKit
set_option linter.unusedSimpArgs false
set_option linter.unusedVariables false

set_option maxHeartbeats 8000000 in
set_option maxRecDepth 100000 in
theorem core_OpenToClosed (a0 : Option Addr) (n0 c0 : Nat) (t0 : List Int) (r1 r2 : List Int) (ok : Bool) (w : World) (h0 : Rd w (.slice a0 n0 c0) t0) (hs0 : n0 ≤ 1048576) (hsp : ∀ (w : World) (u0 : Value), Rd w u0 t0 → Calls Try.prog 27 #[u0] w (GivesM w r1 r2 ok)) (him : ∀ (w : World) (u0 : Value), Rd w u0 t0 → Calls Try.prog 28 #[u0] w (GivesM w r1 r2 ok)) (hr : r1.length ≤ 1000000 ∧ r2.length ≤ 1000000) :
    Calls Try.prog 7 #[.slice a0 n0 c0] w (Good w) := by
  have HS := Lib.hid hsp; have HI := Lib.hid him; clear hsp him
  have HR := Lib.hid hr; clear hr
  have ln0 : t0.length = n0 := by obtain ⟨_, _, hv, _⟩ := h0; simp at hv; exact hv.2.1.symm
  have LN0 : Hid (t0.length ≤ 1048576) := by show _ ≤ _; omega
  have A0 := Lib.hid h0
  clear ln0 h0
  have Z0 : Hid (w.heap.size ≤ w.heap.size) := Nat.le_refl _
  go_enter Try.func7, Try.ntmps7
  go_wp2_with fail
  refine (toIntS_ok _ t0 _ (A0.out) LN0.out).mono ?_
  rintro e w1 ⟨sa0v, rfl, sa0o1, hb⟩
  have C := Lib.hid hb
  have Z1 := Lib.hid (Below.size hb); clear hb
  obtain ⟨sa01a, sa01n, sa01c, rfl⟩ := sa0o1.form'
  have Isa01 := Lib.hid (Own.inn sa0o1); have Osa01 := Lib.hid sa0o1; clear sa0o1
  go_wp2_with fail
  refine (HS.out _ _ Osa01.out.rd).mono ?_
  rintro e w2 ⟨vsv1, vsv2, rfl, vso1, vso2, vsap, hb⟩
  replace Osa01 := Lib.hid (Own.below Osa01.out hb)
  replace C := Lib.hid (Below.step C.out hb)
  have Z2 := Lib.hid (Below.size hb); clear hb
  obtain ⟨vs1a, vs1n, vs1c, rfl⟩ := vso1.form'; obtain ⟨vs2a, vs2n, vs2c, rfl⟩ := vso2.form'
  have Ivs1 := Lib.hid (Own.inn vso1); have Ivs2 := Lib.hid (Own.inn vso2); have APvs := Lib.hid vsap
  have Ovs1 := Lib.hid vso1; have Ovs2 := Lib.hid vso2; clear vso1 vso2 vsap
  have hba := Below.alloc1 w2 (.cells #[.slice vs1a vs1n vs1c, .slice vs2a vs2n vs2c] 28)
  replace Osa01 := Lib.hid (Own.below Osa01.out hba)
  replace Ovs1 := Lib.hid (Own.below Ovs1.out hba)
  replace Ovs2 := Lib.hid (Own.below Ovs2.out hba)
  replace C := Lib.hid (Below.step C.out hba)
  have HBvs := Lib.hid (Box2.new 28 w2 (.slice vs1a vs1n vs1c) (.slice vs2a vs2n vs2c))
  clear hba
  have Z3 : Hid (w2.heap.size < (w2.alloc (.cells #[.slice vs1a vs1n vs1c, .slice vs2a vs2n vs2c] 28)).heap.size) := Lib.hid HBvs.out.lt
  have e0a := HBvs.out.c0; have e0b := HBvs.out.c1
  go_wp2_with fail
  clear e0a e0b
  refine (toIntS_ok _ t0 _ (A0.out.below C.out) LN0.out).mono ?_
  rintro e w3 ⟨xa0v, rfl, xa0o1, hb⟩
  replace HBvs := Lib.hid (Box2.below HBvs.out hb)
  replace Osa01 := Lib.hid (Own.below Osa01.out hb)
  replace Ovs1 := Lib.hid (Own.below Ovs1.out hb)
  replace Ovs2 := Lib.hid (Own.below Ovs2.out hb)
  replace C := Lib.hid (Below.step C.out hb)
  have Z4 := Lib.hid (Below.size hb); clear hb
  obtain ⟨xa01a, xa01n, xa01c, rfl⟩ := xa0o1.form'
  have Ixa01 := Lib.hid (Own.inn xa0o1); have Oxa01 := Lib.hid xa0o1; clear xa0o1
  have e1a := HBvs.out.c0; have e1b := HBvs.out.c1
  go_wp2_with fail
  clear e1a e1b
  refine (HI.out _ _ Oxa01.out.rd).mono ?_
  rintro e w4 ⟨vgv1, vgv2, rfl, vgo1, vgo2, vgap, hb⟩
  replace HBvs := Lib.hid (Box2.below HBvs.out hb)
  replace Osa01 := Lib.hid (Own.below Osa01.out hb)
  replace Ovs1 := Lib.hid (Own.below Ovs1.out hb)
  replace Ovs2 := Lib.hid (Own.below Ovs2.out hb)
  replace Oxa01 := Lib.hid (Own.below Oxa01.out hb)
  replace C := Lib.hid (Below.step C.out hb)
  have Z5 := Lib.hid (Below.size hb); clear hb
  obtain ⟨vg1a, vg1n, vg1c, rfl⟩ := vgo1.form'; obtain ⟨vg2a, vg2n, vg2c, rfl⟩ := vgo2.form'
  have Ivg1 := Lib.hid (Own.inn vgo1); have Ivg2 := Lib.hid (Own.inn vgo2); have APvg := Lib.hid vgap
  have Ovg1 := Lib.hid vgo1; have Ovg2 := Lib.hid vgo2; clear vgo1 vgo2 vgap
  have hba := Below.alloc1 w4 (.cells #[.slice vg1a vg1n vg1c, .slice vg2a vg2n vg2c] 28)
  replace HBvs := Lib.hid (Box2.below HBvs.out hba)
  replace Osa01 := Lib.hid (Own.below Osa01.out hba)
  replace Ovs1 := Lib.hid (Own.below Ovs1.out hba)
  replace Ovs2 := Lib.hid (Own.below Ovs2.out hba)
  replace Oxa01 := Lib.hid (Own.below Oxa01.out hba)
  replace Ovg1 := Lib.hid (Own.below Ovg1.out hba)
  replace Ovg2 := Lib.hid (Own.below Ovg2.out hba)
  replace C := Lib.hid (Below.step C.out hba)
  have HBvg := Lib.hid (Box2.new 28 w4 (.slice vg1a vg1n vg1c) (.slice vg2a vg2n vg2c))
  clear hba
  have Z6 : Hid (w4.heap.size < (w4.alloc (.cells #[.slice vg1a vg1n vg1c, .slice vg2a vg2n vg2c] 28)).heap.size) := Lib.hid HBvg.out.lt
  have e2a := HBvs.out.c0; have e2b := HBvs.out.c1
  have e3a := HBvg.out.c0; have e3b := HBvg.out.c1
  go_wp2_with fail
  clear e2a e2b e3a e3b
  refine (eqMeander_ok _ _ _ _ r1 r2 _ Ovg1.out.rd Ovg2.out.rd Ovs1.out.rd Ovs2.out.rd).mono ?_
  rintro e w5 ⟨rfl, hb⟩
  replace HBvs := Lib.hid (Box2.below HBvs.out hb)
  replace HBvg := Lib.hid (Box2.below HBvg.out hb)
  replace Osa01 := Lib.hid (Own.below Osa01.out hb)
  replace Ovs1 := Lib.hid (Own.below Ovs1.out hb)
  replace Ovs2 := Lib.hid (Own.below Ovs2.out hb)
  replace Oxa01 := Lib.hid (Own.below Oxa01.out hb)
  replace Ovg1 := Lib.hid (Own.below Ovg1.out hb)
  replace Ovg2 := Lib.hid (Own.below Ovg2.out hb)
  replace C := Lib.hid (Below.step C.out hb)
  have Z7 := Lib.hid (Below.size hb); clear hb
  have e4a := HBvs.out.c0; have e4b := HBvs.out.c1
  have e5a := HBvg.out.c0; have e5b := HBvg.out.c1
  go_wp2_with fail
  clear e4a e4b e5a e5b
  refine (toIntS_ok _ t0 _ (A0.out.below C.out) LN0.out).mono ?_
  rintro e w6 ⟨y0v, rfl, y0o1, hb⟩
  replace HBvs := Lib.hid (Box2.below HBvs.out hb)
  replace HBvg := Lib.hid (Box2.below HBvg.out hb)
  replace Osa01 := Lib.hid (Own.below Osa01.out hb)
  replace Ovs1 := Lib.hid (Own.below Ovs1.out hb)
  replace Ovs2 := Lib.hid (Own.below Ovs2.out hb)
  replace Oxa01 := Lib.hid (Own.below Oxa01.out hb)
  replace Ovg1 := Lib.hid (Own.below Ovg1.out hb)
  replace Ovg2 := Lib.hid (Own.below Ovg2.out hb)
  replace C := Lib.hid (Below.step C.out hb)
  have Z8 := Lib.hid (Below.size hb); clear hb
  obtain ⟨y01a, y01n, y01c, rfl⟩ := y0o1.form'
  have Iy01 := Lib.hid (Own.inn y0o1); have Oy01 := Lib.hid y0o1; clear y0o1
  have e6a := HBvs.out.c0; have e6b := HBvs.out.c1
  have e7a := HBvg.out.c0; have e7b := HBvg.out.c1
  go_wp2_with fail
  clear e6a e6b e7a e7b
  refine (eqIntS_ok _ _ t0 _ Oxa01.out.rd Oy01.out.rd).mono ?_
  rintro e w7 ⟨rfl, hb⟩
  replace HBvs := Lib.hid (Box2.below HBvs.out hb)
  replace HBvg := Lib.hid (Box2.below HBvg.out hb)
  replace Osa01 := Lib.hid (Own.below Osa01.out hb)
  replace Ovs1 := Lib.hid (Own.below Ovs1.out hb)
  replace Ovs2 := Lib.hid (Own.below Ovs2.out hb)
  replace Oxa01 := Lib.hid (Own.below Oxa01.out hb)
  replace Ovg1 := Lib.hid (Own.below Ovg1.out hb)
  replace Ovg2 := Lib.hid (Own.below Ovg2.out hb)
  replace Oy01 := Lib.hid (Own.below Oy01.out hb)
  replace C := Lib.hid (Below.step C.out hb)
  have Z9 := Lib.hid (Below.size hb); clear hb
  have e8a := HBvs.out.c0; have e8b := HBvs.out.c1
  have e9a := HBvg.out.c0; have e9b := HBvg.out.c1
  go_wp2_with fail
  clear e8a e8b e9a e9b
  refine (markIntS_any (w2.alloc (.cells #[.slice vs1a vs1n vs1c, .slice vs2a vs2n vs2c] 28)).heap.size _ t0 1 _ Oxa01.out (by have := LN0.out; have := HR.out.1; have := HR.out.2; omega) (by have := LN0.out; have := HR.out.1; have := HR.out.2; omega) (by have := LN0.out; have := HR.out.1; have := HR.out.2; omega)).mono ?_
  rintro e w8 ⟨rfl, ho1, hg0⟩
  have hg := Within.of_grown hg0 Ixa01.out; clear hg0
  replace C := Lib.hid (Within.below C.out hg (by have := Z0.out; have := Z1.out; have := Z2.out; have := Z3.out; have := Z4.out; have := Z5.out; have := Z6.out; have := Z7.out; have := Z8.out; have := Z9.out; (try simp only [World.size_alloc] at *); omega) (by have := Z0.out; have := Z1.out; have := Z2.out; have := Z3.out; have := Z4.out; have := Z5.out; have := Z6.out; have := Z7.out; have := Z8.out; have := Z9.out; (try simp only [World.size_alloc] at *); omega))
  replace HBvs := Lib.hid (Box2.within HBvs.out hg (by have := Z0.out; have := Z1.out; have := Z2.out; have := Z3.out; have := Z4.out; have := Z5.out; have := Z6.out; have := Z7.out; have := Z8.out; have := Z9.out; (try simp only [World.size_alloc] at *); omega))
  replace HBvg := Lib.hid (Box2.within HBvg.out hg (by have := Z0.out; have := Z1.out; have := Z2.out; have := Z3.out; have := Z4.out; have := Z5.out; have := Z6.out; have := Z7.out; have := Z8.out; have := Z9.out; (try simp only [World.size_alloc] at *); omega))
  replace Osa01 := Lib.hid (Own.within Osa01.out hg Isa01.out (by have := Z0.out; have := Z1.out; have := Z2.out; have := Z3.out; have := Z4.out; have := Z5.out; have := Z6.out; have := Z7.out; have := Z8.out; have := Z9.out; (try simp only [World.size_alloc] at *); omega))
  replace Ovs1 := Lib.hid (Own.within Ovs1.out hg Ivs1.out (by have := Z0.out; have := Z1.out; have := Z2.out; have := Z3.out; have := Z4.out; have := Z5.out; have := Z6.out; have := Z7.out; have := Z8.out; have := Z9.out; (try simp only [World.size_alloc] at *); omega))
  replace Ovs2 := Lib.hid (Own.within Ovs2.out hg Ivs2.out (by have := Z0.out; have := Z1.out; have := Z2.out; have := Z3.out; have := Z4.out; have := Z5.out; have := Z6.out; have := Z7.out; have := Z8.out; have := Z9.out; (try simp only [World.size_alloc] at *); omega))
  replace Ovg1 := Lib.hid (Own.within Ovg1.out hg Ivg1.out (by have := Z0.out; have := Z1.out; have := Z2.out; have := Z3.out; have := Z4.out; have := Z5.out; have := Z6.out; have := Z7.out; have := Z8.out; have := Z9.out; (try simp only [World.size_alloc] at *); omega))
  replace Ovg2 := Lib.hid (Own.within Ovg2.out hg Ivg2.out (by have := Z0.out; have := Z1.out; have := Z2.out; have := Z3.out; have := Z4.out; have := Z5.out; have := Z6.out; have := Z7.out; have := Z8.out; have := Z9.out; (try simp only [World.size_alloc] at *); omega))
  have Z10 := Lib.hid hg.size; clear hg
  replace Oxa01 := Lib.hid ho1; clear ho1
  have e10a := HBvs.out.c0; have e10b := HBvs.out.c1
  have e11a := HBvg.out.c0; have e11b := HBvg.out.c1
  go_wp2_with fail
  clear e10a e10b e11a e11b
  refine (eqMeander_ok _ _ _ _ r1 r2 _ Ovg1.out.rd Ovg2.out.rd Ovs1.out.rd Ovs2.out.rd).mono ?_
  rintro e w9 ⟨rfl, hb⟩
  replace HBvs := Lib.hid (Box2.below HBvs.out hb)
  replace HBvg := Lib.hid (Box2.below HBvg.out hb)
  replace Osa01 := Lib.hid (Own.below Osa01.out hb)
  replace Ovs1 := Lib.hid (Own.below Ovs1.out hb)
  replace Ovs2 := Lib.hid (Own.below Ovs2.out hb)
  replace Oxa01 := Lib.hid (Own.below Oxa01.out hb)
  replace Ovg1 := Lib.hid (Own.below Ovg1.out hb)
  replace Ovg2 := Lib.hid (Own.below Ovg2.out hb)
  replace C := Lib.hid (Below.step C.out hb)
  have Z11 := Lib.hid (Below.size hb); clear hb
  have e12a := HBvs.out.c0; have e12b := HBvs.out.c1
  have e13a := HBvg.out.c0; have e13b := HBvg.out.c1
  go_wp2_with fail
  clear e12a e12b e13a e13b
  refine (markMeander_any w3.heap.size w4.heap.size _ _ r1 r2 1 _ Ovg1.out Ovg2.out Ivg1.out Ivg2.out (by have := Z0.out; have := Z1.out; have := Z2.out; have := Z3.out; have := Z4.out; have := Z5.out; have := Z6.out; have := Z7.out; have := Z8.out; have := Z9.out; have := Z10.out; have := Z11.out; omega) APvg.out (by omega) (by have := LN0.out; have := HR.out.1; have := HR.out.2; omega) (by have := LN0.out; have := HR.out.1; have := HR.out.2; omega) (by have := LN0.out; have := HR.out.1; have := HR.out.2; omega)).mono ?_
  rintro e w10 ⟨rfl, ho1, ho2, hg⟩
  replace C := Lib.hid (Within.below C.out hg (by have := Z0.out; have := Z1.out; have := Z2.out; have := Z3.out; have := Z4.out; have := Z5.out; have := Z6.out; have := Z7.out; have := Z8.out; have := Z9.out; have := Z10.out; have := Z11.out; (try simp only [World.size_alloc] at *); omega) (by have := Z0.out; have := Z1.out; have := Z2.out; have := Z3.out; have := Z4.out; have := Z5.out; have := Z6.out; have := Z7.out; have := Z8.out; have := Z9.out; have := Z10.out; have := Z11.out; (try simp only [World.size_alloc] at *); omega))
  replace HBvs := Lib.hid (Box2.within HBvs.out hg (by have := Z0.out; have := Z1.out; have := Z2.out; have := Z3.out; have := Z4.out; have := Z5.out; have := Z6.out; have := Z7.out; have := Z8.out; have := Z9.out; have := Z10.out; have := Z11.out; (try simp only [World.size_alloc] at *); omega))
  replace HBvg := Lib.hid (Box2.within HBvg.out hg (by have := Z0.out; have := Z1.out; have := Z2.out; have := Z3.out; have := Z4.out; have := Z5.out; have := Z6.out; have := Z7.out; have := Z8.out; have := Z9.out; have := Z10.out; have := Z11.out; (try simp only [World.size_alloc] at *); omega))
  replace Osa01 := Lib.hid (Own.within Osa01.out hg Isa01.out (by have := Z0.out; have := Z1.out; have := Z2.out; have := Z3.out; have := Z4.out; have := Z5.out; have := Z6.out; have := Z7.out; have := Z8.out; have := Z9.out; have := Z10.out; have := Z11.out; (try simp only [World.size_alloc] at *); omega))
  replace Ovs1 := Lib.hid (Own.within Ovs1.out hg Ivs1.out (by have := Z0.out; have := Z1.out; have := Z2.out; have := Z3.out; have := Z4.out; have := Z5.out; have := Z6.out; have := Z7.out; have := Z8.out; have := Z9.out; have := Z10.out; have := Z11.out; (try simp only [World.size_alloc] at *); omega))
  replace Ovs2 := Lib.hid (Own.within Ovs2.out hg Ivs2.out (by have := Z0.out; have := Z1.out; have := Z2.out; have := Z3.out; have := Z4.out; have := Z5.out; have := Z6.out; have := Z7.out; have := Z8.out; have := Z9.out; have := Z10.out; have := Z11.out; (try simp only [World.size_alloc] at *); omega))
  replace Oxa01 := Lib.hid (Own.within Oxa01.out hg Ixa01.out (by have := Z0.out; have := Z1.out; have := Z2.out; have := Z3.out; have := Z4.out; have := Z5.out; have := Z6.out; have := Z7.out; have := Z8.out; have := Z9.out; have := Z10.out; have := Z11.out; (try simp only [World.size_alloc] at *); omega))
  have Z12 := Lib.hid hg.size; clear hg
  replace Ovg1 := Lib.hid ho1; replace Ovg2 := Lib.hid ho2; clear ho1 ho2
  have e14a := HBvs.out.c0; have e14b := HBvs.out.c1
  have e15a := HBvg.out.c0; have e15b := HBvg.out.c1
  go_wp2_with fail
  clear e14a e14b e15a e15b
  refine (heldMeander_ok _ _ 1 r1.length r2.length _ Ovg1.out.rd Ovg2.out.rd (by omega) (by omega) (by have := LN0.out; have := HR.out.1; have := HR.out.2; omega) (by have := LN0.out; have := HR.out.1; have := HR.out.2; omega)).mono ?_
  rintro e w11 ⟨rfl, hb⟩
  replace HBvs := Lib.hid (Box2.below HBvs.out hb)
  replace HBvg := Lib.hid (Box2.below HBvg.out hb)
  replace Osa01 := Lib.hid (Own.below Osa01.out hb)
  replace Ovs1 := Lib.hid (Own.below Ovs1.out hb)
  replace Ovs2 := Lib.hid (Own.below Ovs2.out hb)
  replace Oxa01 := Lib.hid (Own.below Oxa01.out hb)
  replace Ovg1 := Lib.hid (Own.below Ovg1.out hb)
  replace Ovg2 := Lib.hid (Own.below Ovg2.out hb)
  replace C := Lib.hid (Below.step C.out hb)
  have Z13 := Lib.hid (Below.size hb); clear hb
  have e16a := HBvs.out.c0; have e16b := HBvs.out.c1
  have e17a := HBvg.out.c0; have e17b := HBvg.out.c1
  go_wp2_with fail
  clear e16a e16b e17a e17b
  refine (toIntS_ok _ t0 _ (A0.out.below C.out) LN0.out).mono ?_
  rintro e w12 ⟨za0v, rfl, za0o1, hb⟩
  replace HBvs := Lib.hid (Box2.below HBvs.out hb)
  replace HBvg := Lib.hid (Box2.below HBvg.out hb)
  replace Osa01 := Lib.hid (Own.below Osa01.out hb)
  replace Ovs1 := Lib.hid (Own.below Ovs1.out hb)
  replace Ovs2 := Lib.hid (Own.below Ovs2.out hb)
  replace Oxa01 := Lib.hid (Own.below Oxa01.out hb)
  replace Ovg1 := Lib.hid (Own.below Ovg1.out hb)
  replace Ovg2 := Lib.hid (Own.below Ovg2.out hb)
  replace C := Lib.hid (Below.step C.out hb)
  have Z14 := Lib.hid (Below.size hb); clear hb
  obtain ⟨za01a, za01n, za01c, rfl⟩ := za0o1.form'
  have Iza01 := Lib.hid (Own.inn za0o1); have Oza01 := Lib.hid za0o1; clear za0o1
  have e18a := HBvs.out.c0; have e18b := HBvs.out.c1
  have e19a := HBvg.out.c0; have e19b := HBvg.out.c1
  go_wp2_with fail
  clear e18a e18b e19a e19b
  refine (HI.out _ _ Oza01.out.rd).mono ?_
  rintro e w13 ⟨vhv1, vhv2, rfl, vho1, vho2, vhap, hb⟩
  replace HBvs := Lib.hid (Box2.below HBvs.out hb)
  replace HBvg := Lib.hid (Box2.below HBvg.out hb)
  replace Osa01 := Lib.hid (Own.below Osa01.out hb)
  replace Ovs1 := Lib.hid (Own.below Ovs1.out hb)
  replace Ovs2 := Lib.hid (Own.below Ovs2.out hb)
  replace Oxa01 := Lib.hid (Own.below Oxa01.out hb)
  replace Ovg1 := Lib.hid (Own.below Ovg1.out hb)
  replace Ovg2 := Lib.hid (Own.below Ovg2.out hb)
  replace Oza01 := Lib.hid (Own.below Oza01.out hb)
  replace C := Lib.hid (Below.step C.out hb)
  have Z15 := Lib.hid (Below.size hb); clear hb
  obtain ⟨vh1a, vh1n, vh1c, rfl⟩ := vho1.form'; obtain ⟨vh2a, vh2n, vh2c, rfl⟩ := vho2.form'
  have Ivh1 := Lib.hid (Own.inn vho1); have Ivh2 := Lib.hid (Own.inn vho2); have APvh := Lib.hid vhap
  have Ovh1 := Lib.hid vho1; have Ovh2 := Lib.hid vho2; clear vho1 vho2 vhap
  have hba := Below.alloc1 w13 (.cells #[.slice vh1a vh1n vh1c, .slice vh2a vh2n vh2c] 28)
  replace HBvs := Lib.hid (Box2.below HBvs.out hba)
  replace HBvg := Lib.hid (Box2.below HBvg.out hba)
  replace Osa01 := Lib.hid (Own.below Osa01.out hba)
  replace Ovs1 := Lib.hid (Own.below Ovs1.out hba)
  replace Ovs2 := Lib.hid (Own.below Ovs2.out hba)
  replace Oxa01 := Lib.hid (Own.below Oxa01.out hba)
  replace Ovg1 := Lib.hid (Own.below Ovg1.out hba)
  replace Ovg2 := Lib.hid (Own.below Ovg2.out hba)
  replace Oza01 := Lib.hid (Own.below Oza01.out hba)
  replace Ovh1 := Lib.hid (Own.below Ovh1.out hba)
  replace Ovh2 := Lib.hid (Own.below Ovh2.out hba)
  replace C := Lib.hid (Below.step C.out hba)
  have HBvh := Lib.hid (Box2.new 28 w13 (.slice vh1a vh1n vh1c) (.slice vh2a vh2n vh2c))
  clear hba
  have Z16 : Hid (w13.heap.size < (w13.alloc (.cells #[.slice vh1a vh1n vh1c, .slice vh2a vh2n vh2c] 28)).heap.size) := Lib.hid HBvh.out.lt
  have e20a := HBvs.out.c0; have e20b := HBvs.out.c1
  have e21a := HBvg.out.c0; have e21b := HBvg.out.c1
  have e22a := HBvh.out.c0; have e22b := HBvh.out.c1
  go_wp2_with fail
  clear e20a e20b e21a e21b e22a e22b
  refine (eqMeander_ok _ _ _ _ r1 r2 _ Ovh1.out.rd Ovh2.out.rd Ovs1.out.rd Ovs2.out.rd).mono ?_
  rintro e w14 ⟨rfl, hb⟩
  replace HBvs := Lib.hid (Box2.below HBvs.out hb)
  replace HBvg := Lib.hid (Box2.below HBvg.out hb)
  replace HBvh := Lib.hid (Box2.below HBvh.out hb)
  replace Osa01 := Lib.hid (Own.below Osa01.out hb)
  replace Ovs1 := Lib.hid (Own.below Ovs1.out hb)
  replace Ovs2 := Lib.hid (Own.below Ovs2.out hb)
  replace Oxa01 := Lib.hid (Own.below Oxa01.out hb)
  replace Ovg1 := Lib.hid (Own.below Ovg1.out hb)
  replace Ovg2 := Lib.hid (Own.below Ovg2.out hb)
  replace Oza01 := Lib.hid (Own.below Oza01.out hb)
  replace Ovh1 := Lib.hid (Own.below Ovh1.out hb)
  replace Ovh2 := Lib.hid (Own.below Ovh2.out hb)
  replace C := Lib.hid (Below.step C.out hb)
  have Z17 := Lib.hid (Below.size hb); clear hb
  have e23a := HBvs.out.c0; have e23b := HBvs.out.c1
  have e24a := HBvg.out.c0; have e24b := HBvg.out.c1
  have e25a := HBvh.out.c0; have e25b := HBvh.out.c1
  go_wp2_with fail
  clear e23a e23b e24a e24b e25a e25b
  refine (heldMeander_ok _ _ 1 r1.length r2.length _ Ovg1.out.rd Ovg2.out.rd (by omega) (by omega) (by have := LN0.out; have := HR.out.1; have := HR.out.2; omega) (by have := LN0.out; have := HR.out.1; have := HR.out.2; omega)).mono ?_
  rintro e w15 ⟨rfl, hb⟩
  replace HBvs := Lib.hid (Box2.below HBvs.out hb)
  replace HBvg := Lib.hid (Box2.below HBvg.out hb)
  replace HBvh := Lib.hid (Box2.below HBvh.out hb)
  replace Osa01 := Lib.hid (Own.below Osa01.out hb)
  replace Ovs1 := Lib.hid (Own.below Ovs1.out hb)
  replace Ovs2 := Lib.hid (Own.below Ovs2.out hb)
  replace Oxa01 := Lib.hid (Own.below Oxa01.out hb)
  replace Ovg1 := Lib.hid (Own.below Ovg1.out hb)
  replace Ovg2 := Lib.hid (Own.below Ovg2.out hb)
  replace Oza01 := Lib.hid (Own.below Oza01.out hb)
  replace Ovh1 := Lib.hid (Own.below Ovh1.out hb)
  replace Ovh2 := Lib.hid (Own.below Ovh2.out hb)
  replace C := Lib.hid (Below.step C.out hb)
  have Z18 := Lib.hid (Below.size hb); clear hb
  go_wp2
  go_ret
  exact ⟨rfl, C.out⟩

set_option maxHeartbeats 2000000 in
theorem walk_OpenToClosed (a0 : Option Addr) (len0 cap0 : Nat) (z0 : List Int) (w : World) (w0 : RowIn w a0 len0 cap0 z0) :
    Calls Try.prog 7 #[.slice a0 len0 cap0] w (Good w) := by
  by_cases b0 : len0 ≤ 1048576
  · exact core_OpenToClosed a0 len0 cap0 (z0.take len0) (res1_OpenToClosed (z0.take len0)) (res2_OpenToClosed (z0.take len0)) (ok_OpenToClosed (z0.take len0)) w (RowIn.rd w0) b0  (fun w u50 k0 => spec_OpenToClosed (z0.take len0) w u50 k0 (by rw [RowIn.len w0]; exact b0)) (fun w u50 k0 => impl_OpenToClosed (z0.take len0) w u50 k0 (by rw [RowIn.len w0]; exact b0)) (len_OpenToClosed (z0.take len0))
  · have g0 : cap0 ≤ 9223372036854775807 ∧ len0 ≤ cap0 := by rcases w0 with ⟨_, q1, q2, _⟩ | ⟨_, _, q1, q2, _⟩ <;> first | (unfold maxLen at q2; omega) | omega
    clear w0
    go_enter Try.func7, Try.ntmps7
    go_wp2
    go_ret
    exact ⟨rfl, Below.refl _ _⟩
end Go.Proofs.Ytkohmdhjjnmfgab

namespace Go.Proofs.Ytkohmdhjjnmfgab.fnExactOpenToClosed
open Go.ChangeShapes Go.WideShapes Go.ChangeAt Go.RowKit
open Go.ChangeMaps (open_string shut_string)
open Go.Joins (open_agg2)
set_option linter.unusedVariables false
set_option linter.unusedSimpArgs false

theorem own : ownKnob Try.prog.godebug = none := by kernel_rfl
theorem laidOut : laidOutB Try.prog = true := by kernel_rfl

set_option maxRecDepth 100000 in
theorem lifted (os : Os) (started : os.Started) (H : Type) (enc : TypeId × Value → H) :
    ReturnsInHanded {} Try.checked os 7 .any (Rows.fnExactOpenToClosedSpec.pre6 enc Try.prog Try.f7 Rows.fnExactOpenToClosedRow.domain false) (Rows.fnExactOpenToClosedSpec.post enc Try.prog Try.f7 false true false false) := by
  refine returnsInHanded_of_change (C := Try.checked) own started (by kernel_rfl) Try.func7
    (ChangeSpec.witness6 (enc := enc) (C := Try.checked) false ⟨#[], #[.slice none 0 0], []⟩ 8 (by kernel_rfl) (by kernel_rfl) (by kernel_rfl) (by kernel_rfl)) ?_
  intro W base args ds gs before hval0 hW hcnd _
  have hval : ∀ (j : Nat) t v, Try.f7.params[j]? = some t → args[j]? = some v → Value.okWide Try.prog W .any base t v := hval0
  have hW' := hW
  obtain ⟨p, q, hA0, hV, rfl, hfz, hnd⟩ := hW
  have hA : DataW.TrodAll enc Try.prog W 0 (fun _ => true) true Try.f7.params.toList args.toList ds p := hA0
  rw [Try.params7] at hA hval
  obtain ⟨v0, vs0, d0, ds0, p0, q0, hargs, rfl, rfl, h0, r0⟩ := trodAll_cons hA
  obtain ⟨rfl, rfl, rfl⟩ := trodAll_nil r0
  obtain rfl : args = #[v0] := by cases args; simp_all
  obtain ⟨rfl, rfl⟩ := trodVars_none hV
  have k0 := h0
  have lt0 : ∀ x ∈ p0, x.block < W.heap.size := by obtain ⟨m, hm⟩ := k0; exact DataW.trod_lt m _ _ _ hm
  obtain ⟨a0, len0, cap0, rfl⟩ := okWide_slice Try.underlying22 (hval 0 22 v0 rfl rfl)
  obtain ⟨z0, w0⟩ : ∃ zs, RowIn W a0 len0 cap0 zs := by
    obtain ⟨fuel, hf⟩ := h0
    rcases open_ints Try.underlying22 Try.underlying3 (by kernel_rfl) hf with ⟨hcs, _⟩ | ⟨x, l, c, zs, hcs, _, hl, hm, hz, _, hcell, hwz⟩
    · simp [Value.cells] at hcs
      obtain ⟨rfl, rfl, rfl⟩ := hcs
      exact ⟨[], .inl ⟨rfl, rfl, rfl, rfl⟩⟩
    · simp [Value.cells] at hcs
      obtain ⟨rfl, rfl, rfl⟩ := hcs
      exact ⟨zs, .inr ⟨_, rfl, hl, hm, by simpa using hz, hcell, hwz⟩⟩
  clear hA0 hval0
  refine (walk_OpenToClosed a0 len0 cap0 z0 W w0).mono fun e W' ⟨he, bel⟩ => ?_
  subst he
  exact ⟨_, rfl, _, _, _, [], _, [], hW', trodAll_mk1 (shut_bool Try.underlying4 _), (trodAll_cons_mk (Below.trod laidOut (by kernel_rfl) (of_decide_eq_true (by kernel_rfl)) k0 bel lt0) trodAll_mk0), rfl, bel.frame _, fun h => by cases h⟩

theorem over : Rows.fnExactOpenToClosedRow.holds Try.pinned (OpenSpec.ofChange Rows.fnExactOpenToClosedSpec) :=
  OpenClaim.holds_of_wide 7 Try.f7 rfl rfl rfl rfl rfl rfl rfl ⟨rfl, rfl, rfl, rfl, rfl⟩ rfl rfl rfl rfl rfl (by kernel_rfl) Try.func7 (by kernel_rfl)
    (of_decide_eq_true (by kernel_rfl)) (by unfold Func.isWrapper; first | (rw [if_pos (by decide +kernel)]; kernel_rfl) | (rw [if_neg (by decide +kernel)]; exact ⟨rfl, rfl⟩))
    (fun os started H enc _ => lifted os started H enc)

theorem proved : Rows.FnExactOpenToClosedSaid := over
#print axioms proved
end Go.Proofs.Ytkohmdhjjnmfgab.fnExactOpenToClosed
