/- The law FnExactFirstDesk returns true: the program's first pair is the model's, and owns its memory. No condition. -/
import Derived.Test.YteeoepbbocdchaaRows
import Derived.ProofKit
import Derived.OpenShut
import Derived.ShutString
import Derived.ChangeOld
import Derived.Below
import Derived.Lib.SmallJoins
import Derived.Test.YteeoepbbocdchaaMeander
import Derived.Test.YteeoepbbocdchaaDesk
namespace Go.Proofs.Yteeoepbbocdchaa
open Go.RowKit
set_option linter.unusedSimpArgs false
set_option linter.unusedVariables false

set_option maxHeartbeats 4000000 in
set_option maxRecDepth 100000 in
theorem walk_FirstDesk (w : World) : Calls Try.prog 7 #[] w (Good w) := by
  go_enter Try.func7, Try.ntmps7
  go_wp2_with fail
  refine (specDesk_any _).mono ?_
  rintro e w1 ⟨s1, s2, rfl, os1, os2, sap, hb1⟩
  obtain ⟨sa, sn, sc, rfl⟩ := os1.form'; obtain ⟨ta, tn, tc, rfl⟩ := os2.form'
  have HBS := Lib.hid (Box2.new 42 w1 (.slice sa sn sc) (.slice ta tn tc))
  have C1 := Lib.hid (Below.step hb1 (Below.alloc1 w1 (.cells #[.slice sa sn sc, .slice ta tn tc] 42)))
  have S1 := Lib.hid (os1.below (Below.alloc1 w1 (.cells #[.slice sa sn sc, .slice ta tn tc] 42)))
  have S2 := Lib.hid (os2.below (Below.alloc1 w1 (.cells #[.slice sa sn sc, .slice ta tn tc] 42)))
  have Z1 := Lib.hid hb1.size
  have SN1 := Lib.hid os1.inn; have SN2 := Lib.hid os2.inn
  clear hb1 os1 os2
  go_wp2_with fail
  refine (implDesk_any _).mono ?_
  rintro e w2 ⟨i1, i2, rfl, oi1, oi2, iap, hb2⟩
  obtain ⟨ia, jn, ic, rfl⟩ := oi1.form'; obtain ⟨ja, kn, jc, rfl⟩ := oi2.form'
  have Z2 := Lib.hid hb2.size
  have IN1 := Lib.hid oi1.inn; have IN2 := Lib.hid oi2.inn
  have A1 := Below.alloc1 w2 (.cells #[.slice ia jn ic, .slice ja kn jc] 42)
  have HBI := Lib.hid (Box2.new 42 w2 (.slice ia jn ic) (.slice ja kn jc))
  have HBS2 := Lib.hid ((HBS.out.below hb2).below A1)
  have S12 := Lib.hid ((S1.out.below hb2).below A1); have S22 := Lib.hid ((S2.out.below hb2).below A1)
  have I1 := Lib.hid (oi1.below A1); have I2 := Lib.hid (oi2.below A1)
  have C2 := Lib.hid (Below.step (Below.step C1.out hb2) A1)
  have IAP := Lib.hid iap
  clear hb2 A1 oi1 oi2 iap sap
  have e1a := HBI.out.c0; have e1b := HBI.out.c1; have e2a := HBS2.out.c0; have e2b := HBS2.out.c1
  go_wp2_with fail
  clear e1a e1b e2a e2b
  refine (eqMeander_ok _ _ _ _ _ _ _ I1.out.rd I2.out.rd S12.out.rd S22.out.rd).mono ?_
  rintro e w3 ⟨rfl, hb3⟩
  have HBI3 := Lib.hid (HBI.out.below hb3); have HBS3 := Lib.hid (HBS2.out.below hb3)
  have S13 := Lib.hid (S12.out.below hb3); have S23 := Lib.hid (S22.out.below hb3)
  have I13 := Lib.hid (I1.out.below hb3); have I23 := Lib.hid (I2.out.below hb3)
  have C3 := Lib.hid (Below.step C2.out hb3)
  have Z3 := Lib.hid hb3.size
  clear hb3
  have e1a := HBI3.out.c0; have e1b := HBI3.out.c1
  go_wp2_with fail
  clear e1a e1b
  refine (markMeander_any _ w2.heap.size _ _ _ _ 1 _ I13.out I23.out IN1.out IN2.out (by have := Z3.out; simp at this; omega) IAP.out (by omega) (by omega) (by simp) (by simp)).mono ?_
  rintro e w4 ⟨rfl, ho1, ho2, hg⟩
  have HBI4 := Lib.hid (Box2.within HBI3.out hg (by have := Z3.out; simp at this; omega))
  have HBS4 := Lib.hid (Box2.within HBS3.out hg (by have := HBS.out.lt; have := Z2.out; simp at * <;> omega))
  have S14 := Lib.hid (Own.within S13.out hg SN1.out (by have := Z2.out; simp at * <;> omega)); have S24 := Lib.hid (Own.within S23.out hg SN2.out (by have := Z2.out; simp at * <;> omega))
  have C4 := Lib.hid (Within.below C3.out hg (by have := Z1.out; simp; omega) C3.out.size)
  have I14 := Lib.hid ho1; have I24 := Lib.hid ho2
  clear hg ho1 ho2
  have e1a := HBI4.out.c0; have e1b := HBI4.out.c1
  go_wp2_with fail
  clear e1a e1b
  refine (heldMeander_ok _ _ 1 4 4 _ I14.out.rd I24.out.rd (by omega) (by omega) (by omega) (by omega)).mono ?_
  rintro e w5 ⟨rfl, hb5⟩
  have HBI5 := Lib.hid (HBI4.out.below hb5); have HBS5 := Lib.hid (HBS4.out.below hb5)
  have S15 := Lib.hid (S14.out.below hb5); have S25 := Lib.hid (S24.out.below hb5)
  have I15 := Lib.hid (I14.out.below hb5); have I25 := Lib.hid (I24.out.below hb5)
  have C5 := Lib.hid (Below.step C4.out hb5)
  clear hb5
  go_wp2_with fail
  refine (implDesk_any _).mono ?_
  rintro e w6 ⟨j1, j2, rfl, oj1, oj2, jap, hb6⟩
  obtain ⟨xa, xn, xc, rfl⟩ := oj1.form'; obtain ⟨ya, yn, yc, rfl⟩ := oj2.form'
  have A6 := Below.alloc1 w6 (.cells #[.slice xa xn xc, .slice ya yn yc] 42)
  have HBJ := Lib.hid (Box2.new 42 w6 (.slice xa xn xc) (.slice ya yn yc))
  have HBI6 := Lib.hid ((HBI5.out.below hb6).below A6); have HBS6 := Lib.hid ((HBS5.out.below hb6).below A6)
  have S16 := Lib.hid ((S15.out.below hb6).below A6); have S26 := Lib.hid ((S25.out.below hb6).below A6)
  have I16 := Lib.hid ((I15.out.below hb6).below A6); have I26 := Lib.hid ((I25.out.below hb6).below A6)
  have J1 := Lib.hid (oj1.below A6); have J2 := Lib.hid (oj2.below A6)
  have C6 := Lib.hid (Below.step (Below.step C5.out hb6) A6)
  clear hb6 A6 oj1 oj2 jap
  have e1a := HBJ.out.c0; have e1b := HBJ.out.c1; have e2a := HBS6.out.c0; have e2b := HBS6.out.c1
  go_wp2_with fail
  clear e1a e1b e2a e2b
  refine (eqMeander_ok _ _ _ _ _ _ _ J1.out.rd J2.out.rd S16.out.rd S26.out.rd).mono ?_
  rintro e w7 ⟨rfl, hb7⟩
  have HBI7 := Lib.hid (HBI6.out.below hb7)
  have I17 := Lib.hid (I16.out.below hb7); have I27 := Lib.hid (I26.out.below hb7)
  have C7 := Lib.hid (Below.step C6.out hb7)
  clear hb7
  have e1a := HBI7.out.c0; have e1b := HBI7.out.c1
  go_wp2_with fail
  clear e1a e1b
  refine (heldMeander_ok _ _ 1 4 4 _ I17.out.rd I27.out.rd (by omega) (by omega) (by omega) (by omega)).mono ?_
  rintro e w8 ⟨rfl, hb8⟩
  have C8 := Lib.hid (Below.step C7.out hb8)
  clear hb8
  go_wp2
  go_ret
  exact ⟨rfl, C8.out⟩
end Go.Proofs.Yteeoepbbocdchaa

namespace Go.Proofs.Yteeoepbbocdchaa.fnExactFirstDesk
open Go.ChangeShapes Go.WideShapes Go.ChangeAt Go.RowKit
set_option linter.unusedVariables false
set_option linter.unusedSimpArgs false

theorem own : ownKnob Try.prog.godebug = none := by kernel_rfl
theorem laidOut : laidOutB Try.prog = true := by kernel_rfl

set_option maxRecDepth 100000 in
theorem lifted (os : Os) (started : os.Started) (H : Type) (enc : TypeId × Value → H) :
    ReturnsInHanded {} Try.checked os 7 .any (Rows.fnExactFirstDeskSpec.pre6 enc Try.prog Try.f7 Rows.fnExactFirstDeskRow.domain false) (Rows.fnExactFirstDeskSpec.post enc Try.prog Try.f7 false true false false) := by
  refine returnsInHanded_of_change (C := Try.checked) own started (by kernel_rfl) Try.func7
    (ChangeSpec.witness6 (enc := enc) (C := Try.checked) false ⟨#[], #[], []⟩ 8 (by kernel_rfl) (by kernel_rfl) (by kernel_rfl) (by kernel_rfl)) ?_
  intro W base args ds gs before hval0 hW hcnd _
  have hW' := hW
  obtain ⟨p, q, hA0, hV, rfl, hfz, hnd⟩ := hW
  have hA : DataW.TrodAll enc Try.prog W 0 (fun _ => true) true Try.f7.params.toList args.toList ds p := hA0
  rw [Try.params7] at hA
  obtain ⟨hargs, rfl, rfl⟩ := trodAll_nil hA
  obtain rfl : args = #[] := by cases args; simp_all
  obtain ⟨rfl, rfl⟩ := trodVars_none hV
  clear hA0 hval0
  refine (walk_FirstDesk W).mono fun e W' ⟨he, bel⟩ => ?_
  subst he
  exact ⟨_, rfl, _, _, _, [], _, [], hW', trodAll_mk1 (shut_bool Try.underlying4 _), trodAll_mk0, rfl, bel.frame _, fun h => by cases h⟩

theorem over : Rows.fnExactFirstDeskRow.holds Try.pinned (OpenSpec.ofChange Rows.fnExactFirstDeskSpec) :=
  OpenClaim.holds_of_wide 7 Try.f7 rfl rfl rfl rfl rfl rfl rfl ⟨rfl, rfl, rfl, rfl, rfl⟩ rfl rfl rfl rfl rfl (by kernel_rfl) Try.func7 (by kernel_rfl)
    (of_decide_eq_true (by kernel_rfl)) (by unfold Func.isWrapper; first | (rw [if_pos (by decide +kernel)]; kernel_rfl) | (rw [if_neg (by decide +kernel)]; exact ⟨rfl, rfl⟩))
    (fun os started H enc _ => lifted os started H enc)

theorem proved : Rows.FnExactFirstDeskSaid := over
#print axioms proved
end Go.Proofs.Yteeoepbbocdchaa.fnExactFirstDesk
