/-
  FnExactMergePath answers true at every input that can be read, and writes into nothing that was there before the call: the program's function answers as the model's does, writes into no argument, and its answer owns its memory.
  Conditions: none but the row's own.
-/
import Derived.Test.YtfcjgcbjiongpabRows
import Derived.ProofKit
import Derived.OpenShut
import Derived.ShutString
import Derived.ChangeOld
import Derived.Below
import Derived.Lib.SmallJoins
import Derived.Test.YtfcjgcbjiongpabMeander
import Derived.Deep.RegionHeld3
import Derived.Deep.DeepCutAuto
import Derived.Test.YtfcjgcbjiongpabExMPath
import Derived.Test.YtfcjgcbjiongpabMeS
namespace Go.Proofs.Ytfcjgcbjiongpab
open Go.RowKit
set_option linter.unusedSimpArgs false
set_option linter.unusedVariables false

set_option maxHeartbeats 8000000 in
set_option maxRecDepth 100000 in
theorem core_MergePath (a0 d0 : Option Addr) (n0 c0 p0 q0 : Nat) (t0 b0 : List Int) (r : List (List Int × List Int)) (ok : Bool) (w : World) (h0 : Rd w (.slice a0 n0 c0) t0) (g0 : Rd w (.slice d0 p0 q0) b0) (hs0 : n0 + p0 ≤ 1048576) (hsp : ∀ (w : World) (u0 v0 : Value), Rd w u0 t0 → Rd w v0 b0 → Calls Try.prog 23 #[.agg #[u0, v0]] w (GivesRM w r ok)) (him : ∀ (w : World) (u0 v0 : Value), Rd w u0 t0 → Rd w v0 b0 → Calls Try.prog 25 #[.agg #[u0, v0]] w (GivesMF w r ok)) (hr : tot (flatP r) ≤ 1000000 ∧ ∀ i, i < (flatP r).length → ((flatP r).getD i []).length ≤ 1000000) :
    Calls Try.prog 6 #[.agg #[.slice a0 n0 c0, .slice d0 p0 q0]] w (Good w) := by
  have HS := Lib.hid hsp; have HI := Lib.hid him; clear hsp him
  have HR := Lib.hid hr; clear hr
  have ln0 : t0.length = n0 := by obtain ⟨_, _, hv, _⟩ := h0; simp at hv; exact hv.2.1.symm
  have lp0 : b0.length = p0 := by obtain ⟨_, _, hv, _⟩ := g0; simp at hv; exact hv.2.1.symm
  have LN0 : Hid (t0.length ≤ 1048576) := by show _ ≤ _; omega
  have LP0 : Hid (b0.length ≤ 1048576) := by show _ ≤ _; omega
  have A0 := Lib.hid h0; have D0 := Lib.hid g0
  have hn0 : n0 ≤ 1048576 := by omega
  have hp0 : p0 ≤ 1048576 := by omega
  clear ln0 lp0 h0 g0
  have Z0 : Hid (w.heap.size ≤ w.heap.size) := Nat.le_refl _
  have hba := Below.alloc1 w (.cells #[.slice a0 n0 c0, .slice d0 p0 q0] 34)
  have C : Hid (Below w.heap.size w (w.alloc (.cells #[.slice a0 n0 c0, .slice d0 p0 q0] 34))) := hba
  have HBP0 := Lib.hid (Box2.new 34 w (.slice a0 n0 c0) (.slice d0 p0 q0))
  clear hba
  have Z1 : Hid (w.heap.size < (w.alloc (.cells #[.slice a0 n0 c0, .slice d0 p0 q0] 34)).heap.size) := Lib.hid HBP0.out.lt
  go_enter Try.func6, Try.ntmps6
  have e0a := HBP0.out.c0; have e0b := HBP0.out.c1
  go_wp2_with fail
  clear e0a e0b
  refine (szMeander_ok a0 d0 n0 p0 c0 q0 1048576 _ (by omega) (by omega) (by omega) (by omega) (by omega)).mono ?_
  rintro e w1 ⟨rfl, hb⟩
  replace HBP0 := Lib.hid (Box2.below HBP0.out hb)
  replace C := Lib.hid (Below.step C.out hb)
  have Z2 := Lib.hid (Below.size hb); clear hb
  have e1a := HBP0.out.c0; have e1b := HBP0.out.c1
  go_wp2_with fail
  clear e1a e1b
  refine (toMeander_ok _ _ t0 b0 _ (A0.out.below C.out) (D0.out.below C.out) LN0.out LP0.out).mono ?_
  rintro e w2 ⟨sa0v1, sa0v2, rfl, sa0o1, sa0o2, sa0ap, hb⟩
  replace HBP0 := Lib.hid (Box2.below HBP0.out hb)
  replace C := Lib.hid (Below.step C.out hb)
  have Z3 := Lib.hid (Below.size hb); clear hb
  obtain ⟨sa01a, sa01n, sa01c, rfl⟩ := sa0o1.form'; obtain ⟨sa02a, sa02n, sa02c, rfl⟩ := sa0o2.form'
  have Isa01 := Lib.hid (Own.inn sa0o1); have Isa02 := Lib.hid (Own.inn sa0o2); have APsa0 := Lib.hid sa0ap
  have Osa01 := Lib.hid sa0o1; have Osa02 := Lib.hid sa0o2; clear sa0o1 sa0o2 sa0ap
  have e2a := HBP0.out.c0; have e2b := HBP0.out.c1
  go_wp2_with fail
  clear e2a e2b
  refine (HS.out _ _ _ Osa01.out.rd Osa02.out.rd).mono ?_
  rintro e w3 ⟨vsv, vsvs, rfl, vso1, hb⟩
  have OVLvs := Lib.hid vso1.below_lt
  replace HBP0 := Lib.hid (Box2.below HBP0.out hb)
  replace Osa01 := Lib.hid (Own.below Osa01.out hb)
  replace Osa02 := Lib.hid (Own.below Osa02.out hb)
  replace C := Lib.hid (Below.step C.out hb)
  have Z4 := Lib.hid (Below.size hb); clear hb
  have Ovs1 := Lib.hid vso1; clear vso1
  have e3a := HBP0.out.c0; have e3b := HBP0.out.c1
  go_wp2_with fail
  clear e3a e3b
  refine (toMeander_ok _ _ t0 b0 _ (A0.out.below C.out) (D0.out.below C.out) LN0.out LP0.out).mono ?_
  rintro e w4 ⟨xa0v1, xa0v2, rfl, xa0o1, xa0o2, xa0ap, hb⟩
  replace HBP0 := Lib.hid (Box2.below HBP0.out hb)
  replace Osa01 := Lib.hid (Own.below Osa01.out hb)
  replace Osa02 := Lib.hid (Own.below Osa02.out hb)
  replace Ovs1 := Lib.hid (RdML.below Ovs1.out hb)
  replace C := Lib.hid (Below.step C.out hb)
  have Z5 := Lib.hid (Below.size hb); clear hb
  obtain ⟨xa01a, xa01n, xa01c, rfl⟩ := xa0o1.form'; obtain ⟨xa02a, xa02n, xa02c, rfl⟩ := xa0o2.form'
  have Ixa01 := Lib.hid (Own.inn xa0o1); have Ixa02 := Lib.hid (Own.inn xa0o2); have APxa0 := Lib.hid xa0ap
  have Oxa01 := Lib.hid xa0o1; have Oxa02 := Lib.hid xa0o2; clear xa0o1 xa0o2 xa0ap
  have hba := Below.alloc1 w4 (.cells #[.slice xa01a xa01n xa01c, .slice xa02a xa02n xa02c] 39)
  replace HBP0 := Lib.hid (Box2.below HBP0.out hba)
  replace Osa01 := Lib.hid (Own.below Osa01.out hba)
  replace Osa02 := Lib.hid (Own.below Osa02.out hba)
  replace Ovs1 := Lib.hid (RdML.below Ovs1.out hba)
  replace Oxa01 := Lib.hid (Own.below Oxa01.out hba)
  replace Oxa02 := Lib.hid (Own.below Oxa02.out hba)
  replace C := Lib.hid (Below.step C.out hba)
  have HBxa0 := Lib.hid (Box2.new 39 w4 (.slice xa01a xa01n xa01c) (.slice xa02a xa02n xa02c))
  clear hba
  have Z6 : Hid (w4.heap.size < (w4.alloc (.cells #[.slice xa01a xa01n xa01c, .slice xa02a xa02n xa02c] 39)).heap.size) := Lib.hid HBxa0.out.lt
  have e4a := HBP0.out.c0; have e4b := HBP0.out.c1
  have e5a := HBxa0.out.c0; have e5b := HBxa0.out.c1
  go_wp2_with fail
  clear e4a e4b e5a e5b
  refine (HI.out _ _ _ Oxa01.out.rd Oxa02.out.rd).mono ?_
  rintro e w5 ⟨vgv, vgvs, rfl, vgo1, hb⟩
  replace HBP0 := Lib.hid (Box2.below HBP0.out hb)
  replace HBxa0 := Lib.hid (Box2.below HBxa0.out hb)
  replace Osa01 := Lib.hid (Own.below Osa01.out hb)
  replace Osa02 := Lib.hid (Own.below Osa02.out hb)
  replace Ovs1 := Lib.hid (RdML.below Ovs1.out hb)
  replace Oxa01 := Lib.hid (Own.below Oxa01.out hb)
  replace Oxa02 := Lib.hid (Own.below Oxa02.out hb)
  replace C := Lib.hid (Below.step C.out hb)
  have Z7 := Lib.hid (Below.size hb); clear hb
  have Ovg1 := Lib.hid vgo1; clear vgo1
  have e6a := HBP0.out.c0; have e6b := HBP0.out.c1
  have e7a := HBxa0.out.c0; have e7b := HBxa0.out.c1
  go_wp2_with fail
  clear e6a e6b e7a e7b
  refine (eqMeanderS_ok _ _ _ _ _ _ _ (flatP r) _ Ovg1.out.rd Ovs1.out).mono ?_
  rintro e w6 ⟨rfl, hb⟩
  replace HBP0 := Lib.hid (Box2.below HBP0.out hb)
  replace HBxa0 := Lib.hid (Box2.below HBxa0.out hb)
  replace Osa01 := Lib.hid (Own.below Osa01.out hb)
  replace Osa02 := Lib.hid (Own.below Osa02.out hb)
  replace Ovs1 := Lib.hid (RdML.below Ovs1.out hb)
  replace Oxa01 := Lib.hid (Own.below Oxa01.out hb)
  replace Oxa02 := Lib.hid (Own.below Oxa02.out hb)
  replace Ovg1 := Lib.hid (OwnMF.below Ovg1.out hb)
  replace C := Lib.hid (Below.step C.out hb)
  have Z8 := Lib.hid (Below.size hb); clear hb
  go_wp2_with fail
  go_region_held3 (fun w' => Hid (Below w6.heap.size w6 w') ∧ w'.cell? ⟨w4.heap.size, 0, none⟩ = some (.slice xa01a xa01n xa01c) ∧ w'.cell? ⟨w4.heap.size, 1, none⟩ = some (.slice xa02a xa02n xa02c) ∧ w'.cell? ⟨w.heap.size, 0, none⟩ = some (.slice a0 n0 c0) ∧ w'.cell? ⟨w.heap.size, 1, none⟩ = some (.slice d0 p0 q0))
    (first | assumption | exact held_start HBxa0.out HBP0.out | exact held_keep (by assumption) (by assumption))
    (first
      | (go_at_call 24; ((refine (toMeander_ok _ _ t0 b0 _ ((A0.out.below C.out).below (Below.drew (Below.refl _ _))) ((D0.out.below C.out).below (Below.drew (Below.refl _ _))) LN0.out LP0.out).mono ?_); rintro e' wq ⟨yv1, yv2, rfl, yo1, yo2, yap, hb'⟩; have YB : Hid (Below w6.heap.size w6 wq) := ((Below.refl _ w6).drew).trans hb'; have YO1 := Lib.hid yo1; have YO2 := Lib.hid yo2; obtain ⟨y1a, y1n, y1c, rfl⟩ := yo1.form'; obtain ⟨y2a, y2n, y2c, rfl⟩ := yo2.form'))
      | (go_at_call 27; ((refine (eqMeander_ok _ _ _ _ t0 b0 _ (Own.below Oxa01.out YB.out).rd (Own.below Oxa02.out YB.out).rd YO1.out.rd YO2.out.rd).mono ?_); rintro e' w' ⟨rfl, hb'⟩)))
  have hb : Below w6.heap.size w6 w' := held_out (by assumption)
  generalize w' = w7 at *
  replace HBP0 := Lib.hid (Box2.below HBP0.out hb)
  replace HBxa0 := Lib.hid (Box2.below HBxa0.out hb)
  replace Osa01 := Lib.hid (Own.below Osa01.out hb)
  replace Osa02 := Lib.hid (Own.below Osa02.out hb)
  replace Ovs1 := Lib.hid (RdML.below Ovs1.out hb)
  replace Oxa01 := Lib.hid (Own.below Oxa01.out hb)
  replace Oxa02 := Lib.hid (Own.below Oxa02.out hb)
  replace Ovg1 := Lib.hid (OwnMF.below Ovg1.out hb)
  replace C := Lib.hid (Below.step C.out hb)
  have Z9 := Lib.hid (Below.size hb); clear hb
  have yclear : True := trivial
  have e8a := HBP0.out.c0; have e8b := HBP0.out.c1
  have e9a := HBxa0.out.c0; have e9b := HBxa0.out.c1
  go_wp2_with fail
  clear e8a e8b e9a e9b
  refine (markMeander_any w3.heap.size w4.heap.size _ _ t0 b0 1 _ Oxa01.out Oxa02.out Ixa01.out Ixa02.out (by have := Z0.out; have := Z1.out; have := Z2.out; have := Z3.out; have := Z4.out; have := Z5.out; have := Z6.out; have := Z7.out; have := Z8.out; have := Z9.out; omega) APxa0.out (by omega) (by have := LN0.out; have := LP0.out; omega) (by have := LN0.out; have := LP0.out; omega) (by have := LN0.out; have := LP0.out; omega)).mono ?_
  rintro e w8 ⟨rfl, ho1, ho2, hg⟩
  replace C := Lib.hid (Within.below C.out hg (by have := Z0.out; have := Z1.out; have := Z2.out; have := Z3.out; have := Z4.out; have := Z5.out; have := Z6.out; have := Z7.out; have := Z8.out; have := Z9.out; (try simp only [World.size_alloc] at *); omega) (by have := Z0.out; have := Z1.out; have := Z2.out; have := Z3.out; have := Z4.out; have := Z5.out; have := Z6.out; have := Z7.out; have := Z8.out; have := Z9.out; (try simp only [World.size_alloc] at *); omega))
  replace HBP0 := Lib.hid (Box2.within HBP0.out hg (by have := Z0.out; have := Z1.out; have := Z2.out; have := Z3.out; have := Z4.out; have := Z5.out; have := Z6.out; have := Z7.out; have := Z8.out; have := Z9.out; (try simp only [World.size_alloc] at *); omega))
  replace HBxa0 := Lib.hid (Box2.within HBxa0.out hg (by have := Z0.out; have := Z1.out; have := Z2.out; have := Z3.out; have := Z4.out; have := Z5.out; have := Z6.out; have := Z7.out; have := Z8.out; have := Z9.out; (try simp only [World.size_alloc] at *); omega))
  replace Osa01 := Lib.hid (Own.within Osa01.out hg Isa01.out (by have := Z0.out; have := Z1.out; have := Z2.out; have := Z3.out; have := Z4.out; have := Z5.out; have := Z6.out; have := Z7.out; have := Z8.out; have := Z9.out; (try simp only [World.size_alloc] at *); omega))
  replace Osa02 := Lib.hid (Own.within Osa02.out hg Isa02.out (by have := Z0.out; have := Z1.out; have := Z2.out; have := Z3.out; have := Z4.out; have := Z5.out; have := Z6.out; have := Z7.out; have := Z8.out; have := Z9.out; (try simp only [World.size_alloc] at *); omega))
  replace Ovs1 := Lib.hid (RdML.within Ovs1.out hg (fun k hk => by have := OVLvs.out.1 k hk; have := Z1.out; have := Z2.out; have := Z3.out; have := Z4.out; have := Z5.out; have := Z6.out; have := Z7.out; have := Z8.out; have := Z9.out; (try simp only [World.size_alloc] at *); omega) (fun i hi k hk => by have := OVLvs.out.2 i hi k hk; have := Z1.out; have := Z2.out; have := Z3.out; have := Z4.out; have := Z5.out; have := Z6.out; have := Z7.out; have := Z8.out; have := Z9.out; (try simp only [World.size_alloc] at *); omega))
  replace Ovg1 := Lib.hid (OwnMF.within Ovg1.out hg (by have := Z0.out; have := Z1.out; have := Z2.out; have := Z3.out; have := Z4.out; have := Z5.out; have := Z6.out; have := Z7.out; have := Z8.out; have := Z9.out; (try simp only [World.size_alloc] at *); omega))
  have Z10 := Lib.hid hg.size; clear hg
  replace Oxa01 := Lib.hid ho1; replace Oxa02 := Lib.hid ho2; clear ho1 ho2
  have e10a := HBP0.out.c0; have e10b := HBP0.out.c1
  have e11a := HBxa0.out.c0; have e11b := HBxa0.out.c1
  go_wp2_with fail
  clear e10a e10b e11a e11b
  refine (eqMeanderS_ok _ _ _ _ _ _ _ (flatP r) _ Ovg1.out.rd Ovs1.out).mono ?_
  rintro e w9 ⟨rfl, hb⟩
  replace HBP0 := Lib.hid (Box2.below HBP0.out hb)
  replace HBxa0 := Lib.hid (Box2.below HBxa0.out hb)
  replace Osa01 := Lib.hid (Own.below Osa01.out hb)
  replace Osa02 := Lib.hid (Own.below Osa02.out hb)
  replace Ovs1 := Lib.hid (RdML.below Ovs1.out hb)
  replace Oxa01 := Lib.hid (Own.below Oxa01.out hb)
  replace Oxa02 := Lib.hid (Own.below Oxa02.out hb)
  replace Ovg1 := Lib.hid (OwnMF.below Ovg1.out hb)
  replace C := Lib.hid (Below.step C.out hb)
  have Z11 := Lib.hid (Below.size hb); clear hb
  have e12a := HBP0.out.c0; have e12b := HBP0.out.c1
  have e13a := HBxa0.out.c0; have e13b := HBxa0.out.c1
  go_wp2_with fail
  clear e12a e12b e13a e13b
  refine (markMeanderS_any (w4.alloc (.cells #[.slice xa01a xa01n xa01c, .slice xa02a xa02n xa02c] 39)).heap.size w5.heap.size _ vgv _ (flatP r) 1 _ Ovg1.out (by omega) (by have := HR.out.1; omega) (fun i hi => Nat.le_trans (HR.out.2 i hi) (by omega))).mono ?_
  rintro e w10 ⟨rfl, ho1, hg⟩
  replace C := Lib.hid (Within.below C.out hg (by have := Z0.out; have := Z1.out; have := Z2.out; have := Z3.out; have := Z4.out; have := Z5.out; have := Z6.out; have := Z7.out; have := Z8.out; have := Z9.out; have := Z10.out; have := Z11.out; (try simp only [World.size_alloc] at *); omega) (by have := Z0.out; have := Z1.out; have := Z2.out; have := Z3.out; have := Z4.out; have := Z5.out; have := Z6.out; have := Z7.out; have := Z8.out; have := Z9.out; have := Z10.out; have := Z11.out; (try simp only [World.size_alloc] at *); omega))
  replace HBP0 := Lib.hid (Box2.within HBP0.out hg (by have := Z0.out; have := Z1.out; have := Z2.out; have := Z3.out; have := Z4.out; have := Z5.out; have := Z6.out; have := Z7.out; have := Z8.out; have := Z9.out; have := Z10.out; have := Z11.out; (try simp only [World.size_alloc] at *); omega))
  replace HBxa0 := Lib.hid (Box2.within HBxa0.out hg (by have := Z0.out; have := Z1.out; have := Z2.out; have := Z3.out; have := Z4.out; have := Z5.out; have := Z6.out; have := Z7.out; have := Z8.out; have := Z9.out; have := Z10.out; have := Z11.out; (try simp only [World.size_alloc] at *); omega))
  replace Osa01 := Lib.hid (Own.within Osa01.out hg Isa01.out (by have := Z0.out; have := Z1.out; have := Z2.out; have := Z3.out; have := Z4.out; have := Z5.out; have := Z6.out; have := Z7.out; have := Z8.out; have := Z9.out; have := Z10.out; have := Z11.out; (try simp only [World.size_alloc] at *); omega))
  replace Osa02 := Lib.hid (Own.within Osa02.out hg Isa02.out (by have := Z0.out; have := Z1.out; have := Z2.out; have := Z3.out; have := Z4.out; have := Z5.out; have := Z6.out; have := Z7.out; have := Z8.out; have := Z9.out; have := Z10.out; have := Z11.out; (try simp only [World.size_alloc] at *); omega))
  replace Ovs1 := Lib.hid (RdML.within Ovs1.out hg (fun k hk => by have := OVLvs.out.1 k hk; have := Z1.out; have := Z2.out; have := Z3.out; have := Z4.out; have := Z5.out; have := Z6.out; have := Z7.out; have := Z8.out; have := Z9.out; have := Z10.out; have := Z11.out; (try simp only [World.size_alloc] at *); omega) (fun i hi k hk => by have := OVLvs.out.2 i hi k hk; have := Z1.out; have := Z2.out; have := Z3.out; have := Z4.out; have := Z5.out; have := Z6.out; have := Z7.out; have := Z8.out; have := Z9.out; have := Z10.out; have := Z11.out; (try simp only [World.size_alloc] at *); omega))
  replace Oxa01 := Lib.hid (Own.within Oxa01.out hg Ixa01.out (by have := Z0.out; have := Z1.out; have := Z2.out; have := Z3.out; have := Z4.out; have := Z5.out; have := Z6.out; have := Z7.out; have := Z8.out; have := Z9.out; have := Z10.out; have := Z11.out; (try simp only [World.size_alloc] at *); omega))
  replace Oxa02 := Lib.hid (Own.within Oxa02.out hg Ixa02.out (by have := Z0.out; have := Z1.out; have := Z2.out; have := Z3.out; have := Z4.out; have := Z5.out; have := Z6.out; have := Z7.out; have := Z8.out; have := Z9.out; have := Z10.out; have := Z11.out; (try simp only [World.size_alloc] at *); omega))
  have Z12 := Lib.hid hg.size; clear hg
  replace Ovg1 := Lib.hid ho1; clear ho1
  have e14a := HBP0.out.c0; have e14b := HBP0.out.c1
  have e15a := HBxa0.out.c0; have e15b := HBxa0.out.c1
  go_wp2_with fail
  clear e14a e14b e15a e15b
  refine (heldMeanderS_ok _ _ _ _ (flatP r) 1 _ Ovg1.out.rd (by omega) (by have := HR.out.1; omega) (fun i hi => Nat.le_trans (HR.out.2 i hi) (by omega))).mono ?_
  rintro e w11 ⟨rfl, hb⟩
  replace HBP0 := Lib.hid (Box2.below HBP0.out hb)
  replace HBxa0 := Lib.hid (Box2.below HBxa0.out hb)
  replace Osa01 := Lib.hid (Own.below Osa01.out hb)
  replace Osa02 := Lib.hid (Own.below Osa02.out hb)
  replace Ovs1 := Lib.hid (RdML.below Ovs1.out hb)
  replace Oxa01 := Lib.hid (Own.below Oxa01.out hb)
  replace Oxa02 := Lib.hid (Own.below Oxa02.out hb)
  replace Ovg1 := Lib.hid (OwnMF.below Ovg1.out hb)
  replace C := Lib.hid (Below.step C.out hb)
  have Z13 := Lib.hid (Below.size hb); clear hb
  have e16a := HBP0.out.c0; have e16b := HBP0.out.c1
  have e17a := HBxa0.out.c0; have e17b := HBxa0.out.c1
  go_wp2_with fail
  clear e16a e16b e17a e17b
  refine (toMeander_ok _ _ t0 b0 _ (A0.out.below C.out) (D0.out.below C.out) LN0.out LP0.out).mono ?_
  rintro e w12 ⟨za0v1, za0v2, rfl, za0o1, za0o2, za0ap, hb⟩
  replace HBP0 := Lib.hid (Box2.below HBP0.out hb)
  replace HBxa0 := Lib.hid (Box2.below HBxa0.out hb)
  replace Osa01 := Lib.hid (Own.below Osa01.out hb)
  replace Osa02 := Lib.hid (Own.below Osa02.out hb)
  replace Ovs1 := Lib.hid (RdML.below Ovs1.out hb)
  replace Oxa01 := Lib.hid (Own.below Oxa01.out hb)
  replace Oxa02 := Lib.hid (Own.below Oxa02.out hb)
  replace Ovg1 := Lib.hid (OwnMF.below Ovg1.out hb)
  replace C := Lib.hid (Below.step C.out hb)
  have Z14 := Lib.hid (Below.size hb); clear hb
  obtain ⟨za01a, za01n, za01c, rfl⟩ := za0o1.form'; obtain ⟨za02a, za02n, za02c, rfl⟩ := za0o2.form'
  have Iza01 := Lib.hid (Own.inn za0o1); have Iza02 := Lib.hid (Own.inn za0o2); have APza0 := Lib.hid za0ap
  have Oza01 := Lib.hid za0o1; have Oza02 := Lib.hid za0o2; clear za0o1 za0o2 za0ap
  have e18a := HBP0.out.c0; have e18b := HBP0.out.c1
  have e19a := HBxa0.out.c0; have e19b := HBxa0.out.c1
  go_wp2_with fail
  clear e18a e18b e19a e19b
  refine (HI.out _ _ _ Oza01.out.rd Oza02.out.rd).mono ?_
  rintro e w13 ⟨vhv, vhvs, rfl, vho1, hb⟩
  replace HBP0 := Lib.hid (Box2.below HBP0.out hb)
  replace HBxa0 := Lib.hid (Box2.below HBxa0.out hb)
  replace Osa01 := Lib.hid (Own.below Osa01.out hb)
  replace Osa02 := Lib.hid (Own.below Osa02.out hb)
  replace Ovs1 := Lib.hid (RdML.below Ovs1.out hb)
  replace Oxa01 := Lib.hid (Own.below Oxa01.out hb)
  replace Oxa02 := Lib.hid (Own.below Oxa02.out hb)
  replace Ovg1 := Lib.hid (OwnMF.below Ovg1.out hb)
  replace Oza01 := Lib.hid (Own.below Oza01.out hb)
  replace Oza02 := Lib.hid (Own.below Oza02.out hb)
  replace C := Lib.hid (Below.step C.out hb)
  have Z15 := Lib.hid (Below.size hb); clear hb
  have Ovh1 := Lib.hid vho1; clear vho1
  have e20a := HBP0.out.c0; have e20b := HBP0.out.c1
  have e21a := HBxa0.out.c0; have e21b := HBxa0.out.c1
  go_wp2_with fail
  clear e20a e20b e21a e21b
  refine (eqMeanderS_ok _ _ _ _ _ _ _ (flatP r) _ Ovh1.out.rd Ovs1.out).mono ?_
  rintro e w14 ⟨rfl, hb⟩
  replace HBP0 := Lib.hid (Box2.below HBP0.out hb)
  replace HBxa0 := Lib.hid (Box2.below HBxa0.out hb)
  replace Osa01 := Lib.hid (Own.below Osa01.out hb)
  replace Osa02 := Lib.hid (Own.below Osa02.out hb)
  replace Ovs1 := Lib.hid (RdML.below Ovs1.out hb)
  replace Oxa01 := Lib.hid (Own.below Oxa01.out hb)
  replace Oxa02 := Lib.hid (Own.below Oxa02.out hb)
  replace Ovg1 := Lib.hid (OwnMF.below Ovg1.out hb)
  replace Oza01 := Lib.hid (Own.below Oza01.out hb)
  replace Oza02 := Lib.hid (Own.below Oza02.out hb)
  replace Ovh1 := Lib.hid (OwnMF.below Ovh1.out hb)
  replace C := Lib.hid (Below.step C.out hb)
  have Z16 := Lib.hid (Below.size hb); clear hb
  have e22a := HBP0.out.c0; have e22b := HBP0.out.c1
  have e23a := HBxa0.out.c0; have e23b := HBxa0.out.c1
  go_wp2_with fail
  clear e22a e22b e23a e23b
  refine (heldMeanderS_ok _ _ _ _ (flatP r) 1 _ Ovg1.out.rd (by omega) (by have := HR.out.1; omega) (fun i hi => Nat.le_trans (HR.out.2 i hi) (by omega))).mono ?_
  rintro e w15 ⟨rfl, hb⟩
  replace HBP0 := Lib.hid (Box2.below HBP0.out hb)
  replace HBxa0 := Lib.hid (Box2.below HBxa0.out hb)
  replace Osa01 := Lib.hid (Own.below Osa01.out hb)
  replace Osa02 := Lib.hid (Own.below Osa02.out hb)
  replace Ovs1 := Lib.hid (RdML.below Ovs1.out hb)
  replace Oxa01 := Lib.hid (Own.below Oxa01.out hb)
  replace Oxa02 := Lib.hid (Own.below Oxa02.out hb)
  replace Ovg1 := Lib.hid (OwnMF.below Ovg1.out hb)
  replace Oza01 := Lib.hid (Own.below Oza01.out hb)
  replace Oza02 := Lib.hid (Own.below Oza02.out hb)
  replace Ovh1 := Lib.hid (OwnMF.below Ovh1.out hb)
  replace C := Lib.hid (Below.step C.out hb)
  have Z17 := Lib.hid (Below.size hb); clear hb
  go_wp2
  go_ret
  exact ⟨rfl, C.out⟩

set_option maxHeartbeats 2000000 in
theorem walk_MergePath (a0 : Option Addr) (len0 cap0 : Nat) (z0 : List Int) (d0 : Option Addr) (pen0 qap0 : Nat) (y0 : List Int) (w : World) (w0 : RowIn w a0 len0 cap0 z0) (v0 : RowIn w d0 pen0 qap0 y0) :
    Calls Try.prog 6 #[.agg #[.slice a0 len0 cap0, .slice d0 pen0 qap0]] w (Good w) := by
  have Gw0 : len0 ≤ 9223372036854775807 := by rcases w0 with ⟨_, q1, q2, _⟩ | ⟨_, _, q1, q2, _⟩ <;> first | (unfold maxLen at q2; omega) | omega
  have Gv0 : pen0 ≤ 9223372036854775807 := by rcases v0 with ⟨_, q1, q2, _⟩ | ⟨_, _, q1, q2, _⟩ <;> first | (unfold maxLen at q2; omega) | omega
  by_cases hall : len0 + pen0 ≤ 1048576
  · exact core_MergePath a0 d0 len0 cap0 pen0 qap0 (z0.take len0) (y0.take pen0) (res_MergePath (z0.take len0) (y0.take pen0)) (ok_MergePath (z0.take len0) (y0.take pen0)) w (RowIn.rd w0) (RowIn.rd v0) hall (fun w u50 v50 k0 j0 => spec_MergePath (z0.take len0) (y0.take pen0) w u50 v50 k0 j0 (by rw [RowIn.len w0]; omega) (by rw [RowIn.len v0]; omega)) (fun w u50 v50 k0 j0 => impl_MergePath (z0.take len0) (y0.take pen0) w u50 v50 k0 j0 (by rw [RowIn.len w0]; omega) (by rw [RowIn.len v0]; omega)) (len_MergePath (z0.take len0) (y0.take pen0))
  · clear w0 v0
    have k := cells_new w (.slice a0 len0 cap0) (.slice d0 pen0 qap0) 34
    obtain ⟨k0, k1⟩ := k
    go_enter Try.func6, Try.ntmps6
    go_wp2_with fail
    refine (szMeander_no a0 d0 len0 pen0 cap0 qap0 1048576 _ (by omega) (by omega) (by omega) (by omega) (by omega)).mono ?_
    rintro e w1 ⟨rfl, hb⟩
    go_wp2
    go_ret
    exact ⟨rfl, Below.step (Below.alloc1 w _) hb⟩
end Go.Proofs.Ytfcjgcbjiongpab

namespace Go.Proofs.Ytfcjgcbjiongpab.fnExactMergePath
open Go.ChangeShapes Go.WideShapes Go.ChangeAt Go.RowKit
open Go.ChangeMaps (open_string shut_string)
open Go.Joins (open_agg2 open_agg3)
set_option linter.unusedVariables false
set_option linter.unusedSimpArgs false

theorem own : ownKnob Try.prog.godebug = none := by kernel_rfl
theorem laidOut : laidOutB Try.prog = true := by kernel_rfl

theorem cellsM : Try.prog.cellsOf 34 = 2 := by kernel_rfl

set_option maxRecDepth 100000 in
theorem lifted (os : Os) (started : os.Started) (H : Type) (enc : TypeId × Value → H) :
    ReturnsInHanded {} Try.checked os 6 .any (Rows.fnExactMergePathSpec.pre6 enc Try.prog Try.f6 Rows.fnExactMergePathRow.domain false) (Rows.fnExactMergePathSpec.post enc Try.prog Try.f6 false true false false) := by
  refine returnsInHanded_of_change (C := Try.checked) own started (by kernel_rfl) Try.func6
    (ChangeSpec.witness6 (enc := enc) (C := Try.checked) false ⟨#[], #[.agg #[.slice none 0 0, .slice none 0 0]], []⟩ 8 (by kernel_rfl) (by kernel_rfl) (by kernel_rfl) (by kernel_rfl)) ?_
  intro W base args ds gs before hval0 hW hcnd _
  have hval : ∀ (j : Nat) t v, Try.f6.params[j]? = some t → args[j]? = some v → Value.okWide Try.prog W .any base t v := hval0
  have hW' := hW
  obtain ⟨p, q, hA0, hV, rfl, hfz, hnd⟩ := hW
  have hA : DataW.TrodAll enc Try.prog W 0 (fun _ => true) true Try.f6.params.toList args.toList ds p := hA0
  rw [Try.params6] at hA hval
  obtain ⟨v0, vs0, d0, ds0, p0, q0, hargs, rfl, rfl, h0, r0⟩ := trodAll_cons hA
  obtain ⟨rfl, rfl, rfl⟩ := trodAll_nil r0
  obtain rfl : args = #[v0] := by cases args; simp_all
  obtain ⟨rfl, rfl⟩ := trodVars_none hV
  have k0 := h0
  have lt0 : ∀ x ∈ p0, x.block < W.heap.size := by obtain ⟨m, hm⟩ := k0; exact DataW.trod_lt m _ _ _ hm
  obtain ⟨u0, v0x, y00, y01, fu0, rfl, rfl, rfl, f00, f01⟩ := open_agg2 Try.underlying34 (by kernel_rfl) cellsM (hval 0 34 v0 rfl rfl) h0
  obtain ⟨a0, len0, cap0, z0, rfl, w0⟩ : ∃ a l c zs, u0 = .slice a l c ∧ RowIn W a l c zs := by
    rcases open_ints Try.underlying22 Try.underlying3 (by kernel_rfl) f00 with ⟨hcs, _⟩ | ⟨x, l, c, zs, hcs, _, hl, hm, hz, _, hcell, hwz⟩
    · simp at hcs
      subst hcs
      exact ⟨none, 0, 0, [], rfl, .inl ⟨rfl, rfl, rfl, rfl⟩⟩
    · simp at hcs
      subst hcs
      exact ⟨some x, l, c, zs, rfl, .inr ⟨_, rfl, hl, hm, by simpa using hz, hcell, hwz⟩⟩
  obtain ⟨d0, pen0, qap0, y0, rfl, v0⟩ : ∃ a l c zs, v0x = .slice a l c ∧ RowIn W a l c zs := by
    rcases open_ints Try.underlying22 Try.underlying3 (by kernel_rfl) f01 with ⟨hcs, _⟩ | ⟨x, l, c, zs, hcs, _, hl, hm, hz, _, hcell, hwz⟩
    · simp at hcs
      subst hcs
      exact ⟨none, 0, 0, [], rfl, .inl ⟨rfl, rfl, rfl, rfl⟩⟩
    · simp at hcs
      subst hcs
      exact ⟨some x, l, c, zs, rfl, .inr ⟨_, rfl, hl, hm, by simpa using hz, hcell, hwz⟩⟩
  clear hA0 hval0
  refine (walk_MergePath a0 len0 cap0 z0 d0 pen0 qap0 y0 W w0 v0).mono fun e W' ⟨he, bel⟩ => ?_
  subst he
  exact ⟨_, rfl, _, _, _, [], _, [], hW', trodAll_mk1 (shut_bool Try.underlying4 _), (trodAll_cons_mk (Below.trod laidOut (by kernel_rfl) (of_decide_eq_true (by kernel_rfl)) k0 bel lt0) trodAll_mk0), rfl, bel.frame _, fun h => by cases h⟩

theorem over : Rows.fnExactMergePathRow.holds Try.pinned (OpenSpec.ofChange Rows.fnExactMergePathSpec) :=
  OpenClaim.holds_of_wide 6 Try.f6 rfl rfl rfl rfl rfl rfl rfl ⟨rfl, rfl, rfl, rfl, rfl⟩ rfl rfl rfl rfl rfl (by kernel_rfl) Try.func6 (by kernel_rfl)
    (of_decide_eq_true (by kernel_rfl)) (by unfold Func.isWrapper; first | (rw [if_pos (by decide +kernel)]; kernel_rfl) | (rw [if_neg (by decide +kernel)]; exact ⟨rfl, rfl⟩))
    (fun os started H enc _ => lifted os started H enc)

theorem proved : Rows.FnExactMergePathSaid := over
#print axioms proved
end Go.Proofs.Ytfcjgcbjiongpab.fnExactMergePath
