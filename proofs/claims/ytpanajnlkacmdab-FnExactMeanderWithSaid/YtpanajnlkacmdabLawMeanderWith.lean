/-
  FnExactMeanderWith answers true at every input that can be read, and writes into nothing that was there before the call: the program's function answers as the model's does, writes into no argument, and its answer owns its memory.
  Conditions: none but the row's own.
-/
import Derived.Test.YtpanajnlkacmdabRows
import Derived.ProofKit
import Derived.OpenShut
import Derived.ShutString
import Derived.ChangeOld
import Derived.Below
import Derived.Lib.SmallJoins
import Derived.Test.YtpanajnlkacmdabMeander
import Derived.Deep.RegionHeld3
import Derived.Deep.DeepCutAuto
import Derived.Test.YtpanajnlkacmdabMeWith
namespace Go.Proofs.Ytpanajnlkacmdab
open Go.RowKit
set_option linter.unusedSimpArgs false
set_option linter.unusedVariables false

set_option maxHeartbeats 8000000 in
set_option maxRecDepth 100000 in
theorem core_MeanderWith (x0 : Int) (x1 : Int) (r1 r2 : List Int) (ok : Bool) (w : World) (hsp : ∀ (w : World), Calls Try.prog 32 #[.int .i64 x0, .int .i64 x1] w (GivesM w r1 r2 ok)) (him : ∀ (w : World), Calls Try.prog 33 #[.int .i64 x0, .int .i64 x1] w (GivesM w r1 r2 ok)) (hr : r1.length ≤ 1000000 ∧ r2.length ≤ 1000000) :
    Calls Try.prog 8 #[.int .i64 x0, .int .i64 x1] w (Good w) := by
  have HS := Lib.hid hsp; have HI := Lib.hid him; clear hsp him
  have HR := Lib.hid hr; clear hr
  have Z0 : Hid (w.heap.size ≤ w.heap.size) := Nat.le_refl _
  go_enter Try.func8, Try.ntmps8
  go_wp2_with fail
  refine (HS.out _  ).mono ?_
  rintro e w1 ⟨vsv1, vsv2, rfl, vso1, vso2, vsap, hb⟩
  have C := Lib.hid hb
  have Z1 := Lib.hid (Below.size hb); clear hb
  obtain ⟨vs1a, vs1n, vs1c, rfl⟩ := vso1.form'; obtain ⟨vs2a, vs2n, vs2c, rfl⟩ := vso2.form'
  have Ivs1 := Lib.hid (Own.inn vso1); have Ivs2 := Lib.hid (Own.inn vso2); have APvs := Lib.hid vsap
  have Ovs1 := Lib.hid vso1; have Ovs2 := Lib.hid vso2; clear vso1 vso2 vsap
  have hba := Below.alloc1 w1 (.cells #[.slice vs1a vs1n vs1c, .slice vs2a vs2n vs2c] 45)
  replace Ovs1 := Lib.hid (Own.below Ovs1.out hba)
  replace Ovs2 := Lib.hid (Own.below Ovs2.out hba)
  replace C := Lib.hid (Below.step C.out hba)
  have HBvs := Lib.hid (Box2.new 45 w1 (.slice vs1a vs1n vs1c) (.slice vs2a vs2n vs2c))
  clear hba
  have Z2 : Hid (w1.heap.size < (w1.alloc (.cells #[.slice vs1a vs1n vs1c, .slice vs2a vs2n vs2c] 45)).heap.size) := Lib.hid HBvs.out.lt
  have e0a := HBvs.out.c0; have e0b := HBvs.out.c1
  go_wp2_with fail
  clear e0a e0b
  refine (HI.out _  ).mono ?_
  rintro e w2 ⟨vgv1, vgv2, rfl, vgo1, vgo2, vgap, hb⟩
  replace HBvs := Lib.hid (Box2.below HBvs.out hb)
  replace Ovs1 := Lib.hid (Own.below Ovs1.out hb)
  replace Ovs2 := Lib.hid (Own.below Ovs2.out hb)
  replace C := Lib.hid (Below.step C.out hb)
  have Z3 := Lib.hid (Below.size hb); clear hb
  obtain ⟨vg1a, vg1n, vg1c, rfl⟩ := vgo1.form'; obtain ⟨vg2a, vg2n, vg2c, rfl⟩ := vgo2.form'
  have Ivg1 := Lib.hid (Own.inn vgo1); have Ivg2 := Lib.hid (Own.inn vgo2); have APvg := Lib.hid vgap
  have Ovg1 := Lib.hid vgo1; have Ovg2 := Lib.hid vgo2; clear vgo1 vgo2 vgap
  have hba := Below.alloc1 w2 (.cells #[.slice vg1a vg1n vg1c, .slice vg2a vg2n vg2c] 45)
  replace HBvs := Lib.hid (Box2.below HBvs.out hba)
  replace Ovs1 := Lib.hid (Own.below Ovs1.out hba)
  replace Ovs2 := Lib.hid (Own.below Ovs2.out hba)
  replace Ovg1 := Lib.hid (Own.below Ovg1.out hba)
  replace Ovg2 := Lib.hid (Own.below Ovg2.out hba)
  replace C := Lib.hid (Below.step C.out hba)
  have HBvg := Lib.hid (Box2.new 45 w2 (.slice vg1a vg1n vg1c) (.slice vg2a vg2n vg2c))
  clear hba
  have Z4 : Hid (w2.heap.size < (w2.alloc (.cells #[.slice vg1a vg1n vg1c, .slice vg2a vg2n vg2c] 45)).heap.size) := Lib.hid HBvg.out.lt
  have e1a := HBvs.out.c0; have e1b := HBvs.out.c1
  have e2a := HBvg.out.c0; have e2b := HBvg.out.c1
  go_wp2_with fail
  clear e1a e1b e2a e2b
  refine (eqMeander_ok _ _ _ _ r1 r2 _ Ovg1.out.rd Ovg2.out.rd Ovs1.out.rd Ovs2.out.rd).mono ?_
  rintro e w3 ⟨rfl, hb⟩
  replace HBvs := Lib.hid (Box2.below HBvs.out hb)
  replace HBvg := Lib.hid (Box2.below HBvg.out hb)
  replace Ovs1 := Lib.hid (Own.below Ovs1.out hb)
  replace Ovs2 := Lib.hid (Own.below Ovs2.out hb)
  replace Ovg1 := Lib.hid (Own.below Ovg1.out hb)
  replace Ovg2 := Lib.hid (Own.below Ovg2.out hb)
  replace C := Lib.hid (Below.step C.out hb)
  have Z5 := Lib.hid (Below.size hb); clear hb
  have e3a := HBvs.out.c0; have e3b := HBvs.out.c1
  have e4a := HBvg.out.c0; have e4b := HBvg.out.c1
  go_wp2_with fail
  clear e3a e3b e4a e4b
  refine (markMeander_any (w1.alloc (.cells #[.slice vs1a vs1n vs1c, .slice vs2a vs2n vs2c] 45)).heap.size w2.heap.size _ _ r1 r2 1 _ Ovg1.out Ovg2.out Ivg1.out Ivg2.out (by have := Z0.out; have := Z1.out; have := Z2.out; have := Z3.out; have := Z4.out; have := Z5.out; omega) APvg.out (by omega) (by have := HR.out.1; have := HR.out.2; omega) (by have := HR.out.1; have := HR.out.2; omega) (by have := HR.out.1; have := HR.out.2; omega)).mono ?_
  rintro e w4 ⟨rfl, ho1, ho2, hg⟩
  replace C := Lib.hid (Within.below C.out hg (by have := Z0.out; have := Z1.out; have := Z2.out; have := Z3.out; have := Z4.out; have := Z5.out; (try simp only [World.size_alloc] at *); omega) (by have := Z0.out; have := Z1.out; have := Z2.out; have := Z3.out; have := Z4.out; have := Z5.out; (try simp only [World.size_alloc] at *); omega))
  replace HBvs := Lib.hid (Box2.within HBvs.out hg (by have := Z0.out; have := Z1.out; have := Z2.out; have := Z3.out; have := Z4.out; have := Z5.out; (try simp only [World.size_alloc] at *); omega))
  replace HBvg := Lib.hid (Box2.within HBvg.out hg (by have := Z0.out; have := Z1.out; have := Z2.out; have := Z3.out; have := Z4.out; have := Z5.out; (try simp only [World.size_alloc] at *); omega))
  replace Ovs1 := Lib.hid (Own.within Ovs1.out hg Ivs1.out (by have := Z0.out; have := Z1.out; have := Z2.out; have := Z3.out; have := Z4.out; have := Z5.out; (try simp only [World.size_alloc] at *); omega))
  replace Ovs2 := Lib.hid (Own.within Ovs2.out hg Ivs2.out (by have := Z0.out; have := Z1.out; have := Z2.out; have := Z3.out; have := Z4.out; have := Z5.out; (try simp only [World.size_alloc] at *); omega))
  have Z6 := Lib.hid hg.size; clear hg
  replace Ovg1 := Lib.hid ho1; replace Ovg2 := Lib.hid ho2; clear ho1 ho2
  have e5a := HBvs.out.c0; have e5b := HBvs.out.c1
  have e6a := HBvg.out.c0; have e6b := HBvg.out.c1
  go_wp2_with fail
  clear e5a e5b e6a e6b
  refine (heldMeander_ok _ _ 1 r1.length r2.length _ Ovg1.out.rd Ovg2.out.rd (by omega) (by omega) (by have := HR.out.1; have := HR.out.2; omega) (by have := HR.out.1; have := HR.out.2; omega)).mono ?_
  rintro e w5 ⟨rfl, hb⟩
  replace HBvs := Lib.hid (Box2.below HBvs.out hb)
  replace HBvg := Lib.hid (Box2.below HBvg.out hb)
  replace Ovs1 := Lib.hid (Own.below Ovs1.out hb)
  replace Ovs2 := Lib.hid (Own.below Ovs2.out hb)
  replace Ovg1 := Lib.hid (Own.below Ovg1.out hb)
  replace Ovg2 := Lib.hid (Own.below Ovg2.out hb)
  replace C := Lib.hid (Below.step C.out hb)
  have Z7 := Lib.hid (Below.size hb); clear hb
  have e7a := HBvs.out.c0; have e7b := HBvs.out.c1
  have e8a := HBvg.out.c0; have e8b := HBvg.out.c1
  go_wp2_with fail
  clear e7a e7b e8a e8b
  refine (HI.out _  ).mono ?_
  rintro e w6 ⟨vhv1, vhv2, rfl, vho1, vho2, vhap, hb⟩
  replace HBvs := Lib.hid (Box2.below HBvs.out hb)
  replace HBvg := Lib.hid (Box2.below HBvg.out hb)
  replace Ovs1 := Lib.hid (Own.below Ovs1.out hb)
  replace Ovs2 := Lib.hid (Own.below Ovs2.out hb)
  replace Ovg1 := Lib.hid (Own.below Ovg1.out hb)
  replace Ovg2 := Lib.hid (Own.below Ovg2.out hb)
  replace C := Lib.hid (Below.step C.out hb)
  have Z8 := Lib.hid (Below.size hb); clear hb
  obtain ⟨vh1a, vh1n, vh1c, rfl⟩ := vho1.form'; obtain ⟨vh2a, vh2n, vh2c, rfl⟩ := vho2.form'
  have Ivh1 := Lib.hid (Own.inn vho1); have Ivh2 := Lib.hid (Own.inn vho2); have APvh := Lib.hid vhap
  have Ovh1 := Lib.hid vho1; have Ovh2 := Lib.hid vho2; clear vho1 vho2 vhap
  have hba := Below.alloc1 w6 (.cells #[.slice vh1a vh1n vh1c, .slice vh2a vh2n vh2c] 45)
  replace HBvs := Lib.hid (Box2.below HBvs.out hba)
  replace HBvg := Lib.hid (Box2.below HBvg.out hba)
  replace Ovs1 := Lib.hid (Own.below Ovs1.out hba)
  replace Ovs2 := Lib.hid (Own.below Ovs2.out hba)
  replace Ovg1 := Lib.hid (Own.below Ovg1.out hba)
  replace Ovg2 := Lib.hid (Own.below Ovg2.out hba)
  replace Ovh1 := Lib.hid (Own.below Ovh1.out hba)
  replace Ovh2 := Lib.hid (Own.below Ovh2.out hba)
  replace C := Lib.hid (Below.step C.out hba)
  have HBvh := Lib.hid (Box2.new 45 w6 (.slice vh1a vh1n vh1c) (.slice vh2a vh2n vh2c))
  clear hba
  have Z9 : Hid (w6.heap.size < (w6.alloc (.cells #[.slice vh1a vh1n vh1c, .slice vh2a vh2n vh2c] 45)).heap.size) := Lib.hid HBvh.out.lt
  have e9a := HBvs.out.c0; have e9b := HBvs.out.c1
  have e10a := HBvg.out.c0; have e10b := HBvg.out.c1
  have e11a := HBvh.out.c0; have e11b := HBvh.out.c1
  go_wp2_with fail
  clear e9a e9b e10a e10b e11a e11b
  refine (eqMeander_ok _ _ _ _ r1 r2 _ Ovh1.out.rd Ovh2.out.rd Ovs1.out.rd Ovs2.out.rd).mono ?_
  rintro e w7 ⟨rfl, hb⟩
  replace HBvs := Lib.hid (Box2.below HBvs.out hb)
  replace HBvg := Lib.hid (Box2.below HBvg.out hb)
  replace HBvh := Lib.hid (Box2.below HBvh.out hb)
  replace Ovs1 := Lib.hid (Own.below Ovs1.out hb)
  replace Ovs2 := Lib.hid (Own.below Ovs2.out hb)
  replace Ovg1 := Lib.hid (Own.below Ovg1.out hb)
  replace Ovg2 := Lib.hid (Own.below Ovg2.out hb)
  replace Ovh1 := Lib.hid (Own.below Ovh1.out hb)
  replace Ovh2 := Lib.hid (Own.below Ovh2.out hb)
  replace C := Lib.hid (Below.step C.out hb)
  have Z10 := Lib.hid (Below.size hb); clear hb
  have e12a := HBvs.out.c0; have e12b := HBvs.out.c1
  have e13a := HBvg.out.c0; have e13b := HBvg.out.c1
  have e14a := HBvh.out.c0; have e14b := HBvh.out.c1
  go_wp2_with fail
  clear e12a e12b e13a e13b e14a e14b
  refine (heldMeander_ok _ _ 1 r1.length r2.length _ Ovg1.out.rd Ovg2.out.rd (by omega) (by omega) (by have := HR.out.1; have := HR.out.2; omega) (by have := HR.out.1; have := HR.out.2; omega)).mono ?_
  rintro e w8 ⟨rfl, hb⟩
  replace HBvs := Lib.hid (Box2.below HBvs.out hb)
  replace HBvg := Lib.hid (Box2.below HBvg.out hb)
  replace HBvh := Lib.hid (Box2.below HBvh.out hb)
  replace Ovs1 := Lib.hid (Own.below Ovs1.out hb)
  replace Ovs2 := Lib.hid (Own.below Ovs2.out hb)
  replace Ovg1 := Lib.hid (Own.below Ovg1.out hb)
  replace Ovg2 := Lib.hid (Own.below Ovg2.out hb)
  replace Ovh1 := Lib.hid (Own.below Ovh1.out hb)
  replace Ovh2 := Lib.hid (Own.below Ovh2.out hb)
  replace C := Lib.hid (Below.step C.out hb)
  have Z11 := Lib.hid (Below.size hb); clear hb
  go_wp2
  go_ret
  exact ⟨rfl, C.out⟩

set_option maxHeartbeats 2000000 in
theorem walk_MeanderWith (a0 : Int) (a1 : Int) (w : World) (w0 : (Lit.int .i64 a0).wf = true) (w1 : (Lit.int .i64 a1).wf = true) :
    Calls Try.prog 8 #[.int .i64 a0, .int .i64 a1] w (Good w) := by
  exact core_MeanderWith a0 a1 (res1_MeanderWith a0 a1) (res2_MeanderWith a0 a1) (ok_MeanderWith a0 a1) w    (fun w => spec_MeanderWith a0 a1 w    ) (fun w => impl_MeanderWith a0 a1 w    ) (len_MeanderWith a0 a1)
end Go.Proofs.Ytpanajnlkacmdab

namespace Go.Proofs.Ytpanajnlkacmdab.fnExactMeanderWith
open Go.ChangeShapes Go.WideShapes Go.ChangeAt Go.RowKit
open Go.ChangeMaps (open_string shut_string)
open Go.Joins (open_agg2)
set_option linter.unusedVariables false
set_option linter.unusedSimpArgs false

theorem own : ownKnob Try.prog.godebug = none := by kernel_rfl
theorem laidOut : laidOutB Try.prog = true := by kernel_rfl

set_option maxRecDepth 100000 in
theorem lifted (os : Os) (started : os.Started) (H : Type) (enc : TypeId × Value → H) :
    ReturnsInHanded {} Try.checked os 8 .any (Rows.fnExactMeanderWithSpec.pre6 enc Try.prog Try.f8 Rows.fnExactMeanderWithRow.domain false) (Rows.fnExactMeanderWithSpec.post enc Try.prog Try.f8 false true false false) := by
  refine returnsInHanded_of_change (C := Try.checked) own started (by kernel_rfl) Try.func8
    (ChangeSpec.witness6 (enc := enc) (C := Try.checked) false ⟨#[], #[.int .i64 0, .int .i64 0], []⟩ 8 (by kernel_rfl) (by kernel_rfl) (by kernel_rfl) (by kernel_rfl)) ?_
  intro W base args ds gs before hval0 hW hcnd _
  have hval : ∀ (j : Nat) t v, Try.f8.params[j]? = some t → args[j]? = some v → Value.okWide Try.prog W .any base t v := hval0
  have hW' := hW
  obtain ⟨p, q, hA0, hV, rfl, hfz, hnd⟩ := hW
  have hA : DataW.TrodAll enc Try.prog W 0 (fun _ => true) true Try.f8.params.toList args.toList ds p := hA0
  rw [Try.params8] at hA hval
  obtain ⟨v0, vs0, d0, ds0, p0, q0, hargs, rfl, rfl, h0, r0⟩ := trodAll_cons hA
  obtain ⟨v1, vs1, d1, ds1, p1, q1, rfl, rfl, rfl, h1, r1⟩ := trodAll_cons r0
  obtain ⟨rfl, rfl, rfl⟩ := trodAll_nil r1
  obtain rfl : args = #[v0, v1] := by cases args; simp_all
  obtain ⟨rfl, rfl⟩ := trodVars_none hV
  obtain ⟨a0, rfl, rfl, rfl, w0⟩ := open_int Try.underlying3 (hval 0 3 v0 rfl rfl) h0
  obtain ⟨a1, rfl, rfl, rfl, w1⟩ := open_int Try.underlying3 (hval 1 3 v1 rfl rfl) h1
  clear hA0 hval0
  refine (walk_MeanderWith a0 a1 W w0 w1).mono fun e W' ⟨he, bel⟩ => ?_
  subst he
  exact ⟨_, rfl, _, _, _, [], _, [], hW', trodAll_mk1 (shut_bool Try.underlying4 _), (trodAll_cons_mk (shut_int Try.underlying3 w0) (trodAll_cons_mk (shut_int Try.underlying3 w1) trodAll_mk0)), rfl, bel.frame _, fun h => by cases h⟩

theorem over : Rows.fnExactMeanderWithRow.holds Try.pinned (OpenSpec.ofChange Rows.fnExactMeanderWithSpec) :=
  OpenClaim.holds_of_wide 8 Try.f8 rfl rfl rfl rfl rfl rfl rfl ⟨rfl, rfl, rfl, rfl, rfl⟩ rfl rfl rfl rfl rfl (by kernel_rfl) Try.func8 (by kernel_rfl)
    (of_decide_eq_true (by kernel_rfl)) (by unfold Func.isWrapper; first | (rw [if_pos (by decide +kernel)]; kernel_rfl) | (rw [if_neg (by decide +kernel)]; exact ⟨rfl, rfl⟩))
    (fun os started H enc _ => lifted os started H enc)

theorem proved : Rows.FnExactMeanderWithSaid := over
#print axioms proved
end Go.Proofs.Ytpanajnlkacmdab.fnExactMeanderWith
