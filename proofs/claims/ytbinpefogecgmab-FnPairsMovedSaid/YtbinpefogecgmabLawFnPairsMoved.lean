/- The law FnPairsMoved returns true on any two byte slices: flips, turns and mirrors keep the number of components, joined pairs have those of both, and pairs are read back from their texts. No condition. -/
import Derived.Test.YtbinpefogecgmabRows
import Derived.ProofKit
import Derived.OpenShut
import Derived.ShutString
import Derived.ChangeOld
import Derived.Below
import Derived.Lib.SmallJoins
import Derived.Deep.DeepCutAuto
import Derived.Deep.CutBlock
import Derived.Test.YtbinpefogecgmabCmps
import Derived.Test.YtbinpefogecgmabDrawC
import Derived.Test.YtbinpefogecgmabDrawM
import Derived.Test.YtbinpefogecgmabPairF
import Derived.Test.YtbinpefogecgmabComps
import Derived.Test.YtbinpefogecgmabTurnM
import Derived.Test.YtbinpefogecgmabMirrorM
import Derived.Test.YtbinpefogecgmabFlip
import Derived.Test.YtbinpefogecgmabJoinM
import Derived.Test.YtbinpefogecgmabParseM
import Derived.Test.YtbinpefogecgmabPairText
namespace Go.Proofs.Ytbinpefogecgmab
open Go.RowKit
set_option linter.unusedSimpArgs false
set_option linter.unusedVariables false


set_option maxHeartbeats 8000000 in
set_option maxRecDepth 100000 in
theorem walk_PairsMoved (b0 : Option Addr) (n0 c0 : Nat) (l1 : List Int) (b1 : Option Addr) (n1 c1 : Nat) (l2 : List Int) (w : World) (y1 : RdY w (.slice b0 n0 c0) l1) (y2 : RdY w (.slice b1 n1 c1) l2) :
    Calls Try.prog 3 #[.slice b0 n0 c0, .slice b1 n1 c1] w (Good w) := by
  have Y1 := Lib.hid y1; have Y2 := Lib.hid y2; clear y1 y2
  have C : Hid (Below w.heap.size w w) := Below.refl _ _
  have HIF : Hid (∀ b : Bool, b = true ∨ b = false) := fun b => by cases b <;> simp
  go_enter Try.func3, Try.ntmps3
  go_wp2_with fail
  refine (big_any _ _ _ l1 _ _ _ l2 _ Y1.out Y2.out).mono ?_
  rintro e w0 ⟨b, rfl, rfl⟩
  rcases HIF.out b with rfl | rfl
  · go_wp2
    go_ret
    exact ⟨rfl, C.out⟩
  go_wp2_with fail
  refine (drawTurnMeander_any _ l1 _ Y1.out).mono ?_
  rintro e w1 ⟨v_p, v_q, lp, lq, x, rfl, ho, ho2, hl, hl2, hx, hb⟩
  obtain ⟨mta, mtn, mtc, rfl⟩ := ho.form'
  obtain ⟨mba, mbn, mbc, rfl⟩ := ho2.form'
  have LP := Lib.hid hl; have LQ := Lib.hid hl2; have HX := Lib.hid hx; clear hl hl2 hx
  replace Y1 := Lib.hid (RdY.below Y1.out hb); replace Y2 := Lib.hid (RdY.below Y2.out hb)
  replace C := Lib.hid (Below.step C.out hb)
  clear hb
  have O_mt := Lib.hid ho; clear ho
  have O_mb := Lib.hid ho2; clear ho2
  have hb := Below.alloc1 w1 (.cells #[.slice mta mtn mtc, .slice mba mbn mbc] 26)
  replace O_mt := Lib.hid (Own.below O_mt.out hb)
  replace O_mb := Lib.hid (Own.below O_mb.out hb)
  replace Y1 := Lib.hid (RdY.below Y1.out hb); replace Y2 := Lib.hid (RdY.below Y2.out hb)
  replace C := Lib.hid (Below.step C.out hb)
  clear hb
  have B_m : Hid (Box2 26 (w1.alloc (.cells #[.slice mta mtn mtc, .slice mba mbn mbc] 26)) (w1.heap.size) (.slice mta mtn mtc) (.slice mba mbn mbc)) := Box2.new _ _ _ _
  have e_m0 := B_m.out.c0; have e_m1 := B_m.out.c1
  go_wp2_with fail
  refine (impl_TurnMeander lp lq x _ _ _ O_mt.out.rd O_mb.out.rd (by have := LP.out; omega) (by have := LQ.out; omega)).mono ?_
  rintro e w2 ⟨v_qt, v_qb, rfl, ho, ho2, _, hb⟩
  obtain ⟨qta, qtn, qtc, rfl⟩ := ho.form'
  obtain ⟨qba, qbn, qbc, rfl⟩ := ho2.form'
  clear e_m0 e_m1
  replace B_m := Lib.hid (Box2.below B_m.out hb)
  replace O_mt := Lib.hid (Own.below O_mt.out hb)
  replace O_mb := Lib.hid (Own.below O_mb.out hb)
  replace Y1 := Lib.hid (RdY.below Y1.out hb); replace Y2 := Lib.hid (RdY.below Y2.out hb)
  replace C := Lib.hid (Below.step C.out hb)
  clear hb
  have O_qt := Lib.hid ho; clear ho
  have O_qb := Lib.hid ho2; clear ho2
  have L_qt : Hid ((res1_TurnMeander lp lq x).length ≤ 1048576) := Nat.le_trans (len_TurnMeander lp lq x).1 (by omega)
  have L_qb : Hid ((res2_TurnMeander lp lq x).length ≤ 1048576) := Nat.le_trans (len_TurnMeander lp lq x).2 (by omega)
  have hb := Below.alloc1 w2 (.cells #[.slice qta qtn qtc, .slice qba qbn qbc] 26)
  replace B_m := Lib.hid (Box2.below B_m.out hb)
  replace O_mt := Lib.hid (Own.below O_mt.out hb)
  replace O_mb := Lib.hid (Own.below O_mb.out hb)
  replace O_qt := Lib.hid (Own.below O_qt.out hb)
  replace O_qb := Lib.hid (Own.below O_qb.out hb)
  replace Y1 := Lib.hid (RdY.below Y1.out hb); replace Y2 := Lib.hid (RdY.below Y2.out hb)
  replace C := Lib.hid (Below.step C.out hb)
  clear hb
  have B_q : Hid (Box2 26 (w2.alloc (.cells #[.slice qta qtn qtc, .slice qba qbn qbc] 26)) (w2.heap.size) (.slice qta qtn qtc) (.slice qba qbn qbc)) := Box2.new _ _ _ _
  have e_m0 := B_m.out.c0; have e_m1 := B_m.out.c1
  go_wp2_with fail
  refine (spec_TurnMeander lp lq x _ _ _ O_mt.out.rd O_mb.out.rd (by have := LP.out; omega) (by have := LQ.out; omega)).mono ?_
  rintro e w3 ⟨v_qwt, v_qwb, rfl, ho, ho2, _, hb⟩
  obtain ⟨qwta, qwtn, qwtc, rfl⟩ := ho.form'
  obtain ⟨qwba, qwbn, qwbc, rfl⟩ := ho2.form'
  clear e_m0 e_m1
  replace B_m := Lib.hid (Box2.below B_m.out hb)
  replace B_q := Lib.hid (Box2.below B_q.out hb)
  replace O_mt := Lib.hid (Own.below O_mt.out hb)
  replace O_mb := Lib.hid (Own.below O_mb.out hb)
  replace O_qt := Lib.hid (Own.below O_qt.out hb)
  replace O_qb := Lib.hid (Own.below O_qb.out hb)
  replace Y1 := Lib.hid (RdY.below Y1.out hb); replace Y2 := Lib.hid (RdY.below Y2.out hb)
  replace C := Lib.hid (Below.step C.out hb)
  clear hb
  have O_qwt := Lib.hid ho; clear ho
  have O_qwb := Lib.hid ho2; clear ho2
  have L_qwt : Hid ((res1_TurnMeander lp lq x).length ≤ 1048576) := Nat.le_trans (len_TurnMeander lp lq x).1 (by omega)
  have L_qwb : Hid ((res2_TurnMeander lp lq x).length ≤ 1048576) := Nat.le_trans (len_TurnMeander lp lq x).2 (by omega)
  have hb := Below.alloc1 w3 (.cells #[.slice qwta qwtn qwtc, .slice qwba qwbn qwbc] 26)
  replace B_m := Lib.hid (Box2.below B_m.out hb)
  replace B_q := Lib.hid (Box2.below B_q.out hb)
  replace O_mt := Lib.hid (Own.below O_mt.out hb)
  replace O_mb := Lib.hid (Own.below O_mb.out hb)
  replace O_qt := Lib.hid (Own.below O_qt.out hb)
  replace O_qb := Lib.hid (Own.below O_qb.out hb)
  replace O_qwt := Lib.hid (Own.below O_qwt.out hb)
  replace O_qwb := Lib.hid (Own.below O_qwb.out hb)
  replace Y1 := Lib.hid (RdY.below Y1.out hb); replace Y2 := Lib.hid (RdY.below Y2.out hb)
  replace C := Lib.hid (Below.step C.out hb)
  clear hb
  have B_qw : Hid (Box2 26 (w3.alloc (.cells #[.slice qwta qwtn qwtc, .slice qwba qwbn qwbc] 26)) (w3.heap.size) (.slice qwta qwtn qwtc) (.slice qwba qwbn qwbc)) := Box2.new _ _ _ _
  have e_m0 := B_m.out.c0; have e_m1 := B_m.out.c1
  go_wp2_with fail
  refine (impl_FlipMeander lp lq _ _ _ O_mt.out.rd O_mb.out.rd (by have := LP.out; omega) (by have := LQ.out; omega)).mono ?_
  rintro e w4 ⟨v_ft, v_fb, rfl, ho, ho2, _, hb⟩
  obtain ⟨fta, ftn, ftc, rfl⟩ := ho.form'
  obtain ⟨fba, fbn, fbc, rfl⟩ := ho2.form'
  clear e_m0 e_m1
  replace B_m := Lib.hid (Box2.below B_m.out hb)
  replace B_q := Lib.hid (Box2.below B_q.out hb)
  replace B_qw := Lib.hid (Box2.below B_qw.out hb)
  replace O_mt := Lib.hid (Own.below O_mt.out hb)
  replace O_mb := Lib.hid (Own.below O_mb.out hb)
  replace O_qt := Lib.hid (Own.below O_qt.out hb)
  replace O_qb := Lib.hid (Own.below O_qb.out hb)
  replace O_qwt := Lib.hid (Own.below O_qwt.out hb)
  replace O_qwb := Lib.hid (Own.below O_qwb.out hb)
  replace Y1 := Lib.hid (RdY.below Y1.out hb); replace Y2 := Lib.hid (RdY.below Y2.out hb)
  replace C := Lib.hid (Below.step C.out hb)
  clear hb
  have O_ft := Lib.hid ho; clear ho
  have O_fb := Lib.hid ho2; clear ho2
  have L_ft : Hid ((res1_FlipMeander lp lq).length ≤ 1048576) := Nat.le_trans (len_FlipMeander lp lq).1 (by omega)
  have L_fb : Hid ((res2_FlipMeander lp lq).length ≤ 1048576) := Nat.le_trans (len_FlipMeander lp lq).2 (by omega)
  have hb := Below.alloc1 w4 (.cells #[.slice fta ftn ftc, .slice fba fbn fbc] 26)
  replace B_m := Lib.hid (Box2.below B_m.out hb)
  replace B_q := Lib.hid (Box2.below B_q.out hb)
  replace B_qw := Lib.hid (Box2.below B_qw.out hb)
  replace O_mt := Lib.hid (Own.below O_mt.out hb)
  replace O_mb := Lib.hid (Own.below O_mb.out hb)
  replace O_qt := Lib.hid (Own.below O_qt.out hb)
  replace O_qb := Lib.hid (Own.below O_qb.out hb)
  replace O_qwt := Lib.hid (Own.below O_qwt.out hb)
  replace O_qwb := Lib.hid (Own.below O_qwb.out hb)
  replace O_ft := Lib.hid (Own.below O_ft.out hb)
  replace O_fb := Lib.hid (Own.below O_fb.out hb)
  replace Y1 := Lib.hid (RdY.below Y1.out hb); replace Y2 := Lib.hid (RdY.below Y2.out hb)
  replace C := Lib.hid (Below.step C.out hb)
  clear hb
  have B_f : Hid (Box2 26 (w4.alloc (.cells #[.slice fta ftn ftc, .slice fba fbn fbc] 26)) (w4.heap.size) (.slice fta ftn ftc) (.slice fba fbn fbc)) := Box2.new _ _ _ _
  have e_m0 := B_m.out.c0; have e_m1 := B_m.out.c1
  go_wp2_with fail
  refine (spec_FlipMeander lp lq _ _ _ O_mt.out.rd O_mb.out.rd (by have := LP.out; omega) (by have := LQ.out; omega)).mono ?_
  rintro e w5 ⟨v_fwt, v_fwb, rfl, ho, ho2, _, hb⟩
  obtain ⟨fwta, fwtn, fwtc, rfl⟩ := ho.form'
  obtain ⟨fwba, fwbn, fwbc, rfl⟩ := ho2.form'
  clear e_m0 e_m1
  replace B_m := Lib.hid (Box2.below B_m.out hb)
  replace B_q := Lib.hid (Box2.below B_q.out hb)
  replace B_qw := Lib.hid (Box2.below B_qw.out hb)
  replace B_f := Lib.hid (Box2.below B_f.out hb)
  replace O_mt := Lib.hid (Own.below O_mt.out hb)
  replace O_mb := Lib.hid (Own.below O_mb.out hb)
  replace O_qt := Lib.hid (Own.below O_qt.out hb)
  replace O_qb := Lib.hid (Own.below O_qb.out hb)
  replace O_qwt := Lib.hid (Own.below O_qwt.out hb)
  replace O_qwb := Lib.hid (Own.below O_qwb.out hb)
  replace O_ft := Lib.hid (Own.below O_ft.out hb)
  replace O_fb := Lib.hid (Own.below O_fb.out hb)
  replace Y1 := Lib.hid (RdY.below Y1.out hb); replace Y2 := Lib.hid (RdY.below Y2.out hb)
  replace C := Lib.hid (Below.step C.out hb)
  clear hb
  have O_fwt := Lib.hid ho; clear ho
  have O_fwb := Lib.hid ho2; clear ho2
  have L_fwt : Hid ((res1_FlipMeander lp lq).length ≤ 1048576) := Nat.le_trans (len_FlipMeander lp lq).1 (by omega)
  have L_fwb : Hid ((res2_FlipMeander lp lq).length ≤ 1048576) := Nat.le_trans (len_FlipMeander lp lq).2 (by omega)
  have hb := Below.alloc1 w5 (.cells #[.slice fwta fwtn fwtc, .slice fwba fwbn fwbc] 26)
  replace B_m := Lib.hid (Box2.below B_m.out hb)
  replace B_q := Lib.hid (Box2.below B_q.out hb)
  replace B_qw := Lib.hid (Box2.below B_qw.out hb)
  replace B_f := Lib.hid (Box2.below B_f.out hb)
  replace O_mt := Lib.hid (Own.below O_mt.out hb)
  replace O_mb := Lib.hid (Own.below O_mb.out hb)
  replace O_qt := Lib.hid (Own.below O_qt.out hb)
  replace O_qb := Lib.hid (Own.below O_qb.out hb)
  replace O_qwt := Lib.hid (Own.below O_qwt.out hb)
  replace O_qwb := Lib.hid (Own.below O_qwb.out hb)
  replace O_ft := Lib.hid (Own.below O_ft.out hb)
  replace O_fb := Lib.hid (Own.below O_fb.out hb)
  replace O_fwt := Lib.hid (Own.below O_fwt.out hb)
  replace O_fwb := Lib.hid (Own.below O_fwb.out hb)
  replace Y1 := Lib.hid (RdY.below Y1.out hb); replace Y2 := Lib.hid (RdY.below Y2.out hb)
  replace C := Lib.hid (Below.step C.out hb)
  clear hb
  have B_fw : Hid (Box2 26 (w5.alloc (.cells #[.slice fwta fwtn fwtc, .slice fwba fwbn fwbc] 26)) (w5.heap.size) (.slice fwta fwtn fwtc) (.slice fwba fwbn fwbc)) := Box2.new _ _ _ _
  have e_m0 := B_m.out.c0; have e_m1 := B_m.out.c1
  go_wp2_with fail
  refine (impl_MirrorMeander lp lq _ _ _ O_mt.out.rd O_mb.out.rd (by have := LP.out; omega) (by have := LQ.out; omega)).mono ?_
  rintro e w6 ⟨v_rt, v_rb, rfl, ho, ho2, _, hb⟩
  obtain ⟨rta, rtn, rtc, rfl⟩ := ho.form'
  obtain ⟨rba, rbn, rbc, rfl⟩ := ho2.form'
  clear e_m0 e_m1
  replace B_m := Lib.hid (Box2.below B_m.out hb)
  replace B_q := Lib.hid (Box2.below B_q.out hb)
  replace B_qw := Lib.hid (Box2.below B_qw.out hb)
  replace B_f := Lib.hid (Box2.below B_f.out hb)
  replace B_fw := Lib.hid (Box2.below B_fw.out hb)
  replace O_mt := Lib.hid (Own.below O_mt.out hb)
  replace O_mb := Lib.hid (Own.below O_mb.out hb)
  replace O_qt := Lib.hid (Own.below O_qt.out hb)
  replace O_qb := Lib.hid (Own.below O_qb.out hb)
  replace O_qwt := Lib.hid (Own.below O_qwt.out hb)
  replace O_qwb := Lib.hid (Own.below O_qwb.out hb)
  replace O_ft := Lib.hid (Own.below O_ft.out hb)
  replace O_fb := Lib.hid (Own.below O_fb.out hb)
  replace O_fwt := Lib.hid (Own.below O_fwt.out hb)
  replace O_fwb := Lib.hid (Own.below O_fwb.out hb)
  replace Y1 := Lib.hid (RdY.below Y1.out hb); replace Y2 := Lib.hid (RdY.below Y2.out hb)
  replace C := Lib.hid (Below.step C.out hb)
  clear hb
  have O_rt := Lib.hid ho; clear ho
  have O_rb := Lib.hid ho2; clear ho2
  have L_rt : Hid ((res1_MirrorMeander lp lq).length ≤ 1048576) := Nat.le_trans (len_MirrorMeander lp lq).1 (by omega)
  have L_rb : Hid ((res2_MirrorMeander lp lq).length ≤ 1048576) := Nat.le_trans (len_MirrorMeander lp lq).2 (by omega)
  have hb := Below.alloc1 w6 (.cells #[.slice rta rtn rtc, .slice rba rbn rbc] 26)
  replace B_m := Lib.hid (Box2.below B_m.out hb)
  replace B_q := Lib.hid (Box2.below B_q.out hb)
  replace B_qw := Lib.hid (Box2.below B_qw.out hb)
  replace B_f := Lib.hid (Box2.below B_f.out hb)
  replace B_fw := Lib.hid (Box2.below B_fw.out hb)
  replace O_mt := Lib.hid (Own.below O_mt.out hb)
  replace O_mb := Lib.hid (Own.below O_mb.out hb)
  replace O_qt := Lib.hid (Own.below O_qt.out hb)
  replace O_qb := Lib.hid (Own.below O_qb.out hb)
  replace O_qwt := Lib.hid (Own.below O_qwt.out hb)
  replace O_qwb := Lib.hid (Own.below O_qwb.out hb)
  replace O_ft := Lib.hid (Own.below O_ft.out hb)
  replace O_fb := Lib.hid (Own.below O_fb.out hb)
  replace O_fwt := Lib.hid (Own.below O_fwt.out hb)
  replace O_fwb := Lib.hid (Own.below O_fwb.out hb)
  replace O_rt := Lib.hid (Own.below O_rt.out hb)
  replace O_rb := Lib.hid (Own.below O_rb.out hb)
  replace Y1 := Lib.hid (RdY.below Y1.out hb); replace Y2 := Lib.hid (RdY.below Y2.out hb)
  replace C := Lib.hid (Below.step C.out hb)
  clear hb
  have B_r : Hid (Box2 26 (w6.alloc (.cells #[.slice rta rtn rtc, .slice rba rbn rbc] 26)) (w6.heap.size) (.slice rta rtn rtc) (.slice rba rbn rbc)) := Box2.new _ _ _ _
  have e_m0 := B_m.out.c0; have e_m1 := B_m.out.c1
  go_wp2_with fail
  refine (spec_MirrorMeander lp lq _ _ _ O_mt.out.rd O_mb.out.rd (by have := LP.out; omega) (by have := LQ.out; omega)).mono ?_
  rintro e w7 ⟨v_rwt, v_rwb, rfl, ho, ho2, _, hb⟩
  obtain ⟨rwta, rwtn, rwtc, rfl⟩ := ho.form'
  obtain ⟨rwba, rwbn, rwbc, rfl⟩ := ho2.form'
  clear e_m0 e_m1
  replace B_m := Lib.hid (Box2.below B_m.out hb)
  replace B_q := Lib.hid (Box2.below B_q.out hb)
  replace B_qw := Lib.hid (Box2.below B_qw.out hb)
  replace B_f := Lib.hid (Box2.below B_f.out hb)
  replace B_fw := Lib.hid (Box2.below B_fw.out hb)
  replace B_r := Lib.hid (Box2.below B_r.out hb)
  replace O_mt := Lib.hid (Own.below O_mt.out hb)
  replace O_mb := Lib.hid (Own.below O_mb.out hb)
  replace O_qt := Lib.hid (Own.below O_qt.out hb)
  replace O_qb := Lib.hid (Own.below O_qb.out hb)
  replace O_qwt := Lib.hid (Own.below O_qwt.out hb)
  replace O_qwb := Lib.hid (Own.below O_qwb.out hb)
  replace O_ft := Lib.hid (Own.below O_ft.out hb)
  replace O_fb := Lib.hid (Own.below O_fb.out hb)
  replace O_fwt := Lib.hid (Own.below O_fwt.out hb)
  replace O_fwb := Lib.hid (Own.below O_fwb.out hb)
  replace O_rt := Lib.hid (Own.below O_rt.out hb)
  replace O_rb := Lib.hid (Own.below O_rb.out hb)
  replace Y1 := Lib.hid (RdY.below Y1.out hb); replace Y2 := Lib.hid (RdY.below Y2.out hb)
  replace C := Lib.hid (Below.step C.out hb)
  clear hb
  have O_rwt := Lib.hid ho; clear ho
  have O_rwb := Lib.hid ho2; clear ho2
  have L_rwt : Hid ((res1_MirrorMeander lp lq).length ≤ 1048576) := Nat.le_trans (len_MirrorMeander lp lq).1 (by omega)
  have L_rwb : Hid ((res2_MirrorMeander lp lq).length ≤ 1048576) := Nat.le_trans (len_MirrorMeander lp lq).2 (by omega)
  have hb := Below.alloc1 w7 (.cells #[.slice rwta rwtn rwtc, .slice rwba rwbn rwbc] 26)
  replace B_m := Lib.hid (Box2.below B_m.out hb)
  replace B_q := Lib.hid (Box2.below B_q.out hb)
  replace B_qw := Lib.hid (Box2.below B_qw.out hb)
  replace B_f := Lib.hid (Box2.below B_f.out hb)
  replace B_fw := Lib.hid (Box2.below B_fw.out hb)
  replace B_r := Lib.hid (Box2.below B_r.out hb)
  replace O_mt := Lib.hid (Own.below O_mt.out hb)
  replace O_mb := Lib.hid (Own.below O_mb.out hb)
  replace O_qt := Lib.hid (Own.below O_qt.out hb)
  replace O_qb := Lib.hid (Own.below O_qb.out hb)
  replace O_qwt := Lib.hid (Own.below O_qwt.out hb)
  replace O_qwb := Lib.hid (Own.below O_qwb.out hb)
  replace O_ft := Lib.hid (Own.below O_ft.out hb)
  replace O_fb := Lib.hid (Own.below O_fb.out hb)
  replace O_fwt := Lib.hid (Own.below O_fwt.out hb)
  replace O_fwb := Lib.hid (Own.below O_fwb.out hb)
  replace O_rt := Lib.hid (Own.below O_rt.out hb)
  replace O_rb := Lib.hid (Own.below O_rb.out hb)
  replace O_rwt := Lib.hid (Own.below O_rwt.out hb)
  replace O_rwb := Lib.hid (Own.below O_rwb.out hb)
  replace Y1 := Lib.hid (RdY.below Y1.out hb); replace Y2 := Lib.hid (RdY.below Y2.out hb)
  replace C := Lib.hid (Below.step C.out hb)
  clear hb
  have B_rw : Hid (Box2 26 (w7.alloc (.cells #[.slice rwta rwtn rwtc, .slice rwba rwbn rwbc] 26)) (w7.heap.size) (.slice rwta rwtn rwtc) (.slice rwba rwbn rwbc)) := Box2.new _ _ _ _
  have e_q0 := B_q.out.c0; have e_q1 := B_q.out.c1
  have e_qw0 := B_qw.out.c0; have e_qw1 := B_qw.out.c1
  go_wp2_with fail
  refine (sSamePair_yes _ _ _ _ _ _ _ _ _ O_qt.out.rd O_qb.out.rd O_qwt.out.rd O_qwb.out.rd rfl rfl).mono ?_
  rintro e w8 ⟨rfl, hb⟩
  clear e_q0 e_q1 e_qw0 e_qw1
  replace B_m := Lib.hid (Box2.below B_m.out hb)
  replace B_q := Lib.hid (Box2.below B_q.out hb)
  replace B_qw := Lib.hid (Box2.below B_qw.out hb)
  replace B_f := Lib.hid (Box2.below B_f.out hb)
  replace B_fw := Lib.hid (Box2.below B_fw.out hb)
  replace B_r := Lib.hid (Box2.below B_r.out hb)
  replace B_rw := Lib.hid (Box2.below B_rw.out hb)
  replace O_mt := Lib.hid (Own.below O_mt.out hb)
  replace O_mb := Lib.hid (Own.below O_mb.out hb)
  replace O_qt := Lib.hid (Own.below O_qt.out hb)
  replace O_qb := Lib.hid (Own.below O_qb.out hb)
  replace O_qwt := Lib.hid (Own.below O_qwt.out hb)
  replace O_qwb := Lib.hid (Own.below O_qwb.out hb)
  replace O_ft := Lib.hid (Own.below O_ft.out hb)
  replace O_fb := Lib.hid (Own.below O_fb.out hb)
  replace O_fwt := Lib.hid (Own.below O_fwt.out hb)
  replace O_fwb := Lib.hid (Own.below O_fwb.out hb)
  replace O_rt := Lib.hid (Own.below O_rt.out hb)
  replace O_rb := Lib.hid (Own.below O_rb.out hb)
  replace O_rwt := Lib.hid (Own.below O_rwt.out hb)
  replace O_rwb := Lib.hid (Own.below O_rwb.out hb)
  replace Y1 := Lib.hid (RdY.below Y1.out hb); replace Y2 := Lib.hid (RdY.below Y2.out hb)
  replace C := Lib.hid (Below.step C.out hb)
  clear hb
  have e_f0 := B_f.out.c0; have e_f1 := B_f.out.c1
  have e_fw0 := B_fw.out.c0; have e_fw1 := B_fw.out.c1
  go_wp2_with fail
  refine (sSamePair_yes _ _ _ _ _ _ _ _ _ O_ft.out.rd O_fb.out.rd O_fwt.out.rd O_fwb.out.rd rfl rfl).mono ?_
  rintro e w9 ⟨rfl, hb⟩
  clear e_f0 e_f1 e_fw0 e_fw1
  replace B_m := Lib.hid (Box2.below B_m.out hb)
  replace B_q := Lib.hid (Box2.below B_q.out hb)
  replace B_qw := Lib.hid (Box2.below B_qw.out hb)
  replace B_f := Lib.hid (Box2.below B_f.out hb)
  replace B_fw := Lib.hid (Box2.below B_fw.out hb)
  replace B_r := Lib.hid (Box2.below B_r.out hb)
  replace B_rw := Lib.hid (Box2.below B_rw.out hb)
  replace O_mt := Lib.hid (Own.below O_mt.out hb)
  replace O_mb := Lib.hid (Own.below O_mb.out hb)
  replace O_qt := Lib.hid (Own.below O_qt.out hb)
  replace O_qb := Lib.hid (Own.below O_qb.out hb)
  replace O_qwt := Lib.hid (Own.below O_qwt.out hb)
  replace O_qwb := Lib.hid (Own.below O_qwb.out hb)
  replace O_ft := Lib.hid (Own.below O_ft.out hb)
  replace O_fb := Lib.hid (Own.below O_fb.out hb)
  replace O_fwt := Lib.hid (Own.below O_fwt.out hb)
  replace O_fwb := Lib.hid (Own.below O_fwb.out hb)
  replace O_rt := Lib.hid (Own.below O_rt.out hb)
  replace O_rb := Lib.hid (Own.below O_rb.out hb)
  replace O_rwt := Lib.hid (Own.below O_rwt.out hb)
  replace O_rwb := Lib.hid (Own.below O_rwb.out hb)
  replace Y1 := Lib.hid (RdY.below Y1.out hb); replace Y2 := Lib.hid (RdY.below Y2.out hb)
  replace C := Lib.hid (Below.step C.out hb)
  clear hb
  have e_r0 := B_r.out.c0; have e_r1 := B_r.out.c1
  have e_rw0 := B_rw.out.c0; have e_rw1 := B_rw.out.c1
  go_wp2_with fail
  refine (sSamePair_yes _ _ _ _ _ _ _ _ _ O_rt.out.rd O_rb.out.rd O_rwt.out.rd O_rwb.out.rd rfl rfl).mono ?_
  rintro e w10 ⟨rfl, hb⟩
  clear e_r0 e_r1 e_rw0 e_rw1
  replace B_m := Lib.hid (Box2.below B_m.out hb)
  replace B_q := Lib.hid (Box2.below B_q.out hb)
  replace B_qw := Lib.hid (Box2.below B_qw.out hb)
  replace B_f := Lib.hid (Box2.below B_f.out hb)
  replace B_fw := Lib.hid (Box2.below B_fw.out hb)
  replace B_r := Lib.hid (Box2.below B_r.out hb)
  replace B_rw := Lib.hid (Box2.below B_rw.out hb)
  replace O_mt := Lib.hid (Own.below O_mt.out hb)
  replace O_mb := Lib.hid (Own.below O_mb.out hb)
  replace O_qt := Lib.hid (Own.below O_qt.out hb)
  replace O_qb := Lib.hid (Own.below O_qb.out hb)
  replace O_qwt := Lib.hid (Own.below O_qwt.out hb)
  replace O_qwb := Lib.hid (Own.below O_qwb.out hb)
  replace O_ft := Lib.hid (Own.below O_ft.out hb)
  replace O_fb := Lib.hid (Own.below O_fb.out hb)
  replace O_fwt := Lib.hid (Own.below O_fwt.out hb)
  replace O_fwb := Lib.hid (Own.below O_fwb.out hb)
  replace O_rt := Lib.hid (Own.below O_rt.out hb)
  replace O_rb := Lib.hid (Own.below O_rb.out hb)
  replace O_rwt := Lib.hid (Own.below O_rwt.out hb)
  replace O_rwb := Lib.hid (Own.below O_rwb.out hb)
  replace Y1 := Lib.hid (RdY.below Y1.out hb); replace Y2 := Lib.hid (RdY.below Y2.out hb)
  replace C := Lib.hid (Below.step C.out hb)
  clear hb
  clear B_qw
  clear B_fw
  clear B_rw
  clear O_qwt
  clear O_qwb
  clear O_fwt
  clear O_fwb
  clear O_rwt
  clear O_rwb
  generalize hT : ok_FlipMeander lp lq = okT at *
  go_upto_if 130 with fail
  go_cut [] (fun wx => Hid (Below w10.heap.size w10 wx))
  case first =>
    as_aux_lemma =>
      have D : Hid (Below w10.heap.size w10 w10) := Below.refl _ _
      cases okT with
      | false =>
        go_wp2_with fail
        go_meet
        case rel => exact D.out
      | true =>
        obtain ⟨f1, f2, f3, f4, f5, f6, f7, f8, f9, f10, f11⟩ := law_flip hT
        have F6 := Lib.hid f6; have F7 := Lib.hid f7; have F8 := Lib.hid f8; have F9 := Lib.hid f9; have F10 := Lib.hid f10; have F11 := Lib.hid f11
        clear f6 f7 f8 f9 f10 f11 hT
        have e_m0 := B_m.out.c0; have e_m1 := B_m.out.c1
        go_wp2_with fail
        refine (impl_ComponentsOf lp lq _ _ _ O_mt.out.rd O_mb.out.rd (by have := LP.out; omega) (by have := LQ.out; omega)).mono ?_
        rintro e w11 ⟨rfl, hb⟩
        clear e_m0 e_m1
        replace B_m := Lib.hid (Box2.below B_m.out hb)
        replace B_q := Lib.hid (Box2.below B_q.out hb)
        replace B_f := Lib.hid (Box2.below B_f.out hb)
        replace B_r := Lib.hid (Box2.below B_r.out hb)
        replace O_mt := Lib.hid (Own.below O_mt.out hb)
        replace O_mb := Lib.hid (Own.below O_mb.out hb)
        replace O_qt := Lib.hid (Own.below O_qt.out hb)
        replace O_qb := Lib.hid (Own.below O_qb.out hb)
        replace O_ft := Lib.hid (Own.below O_ft.out hb)
        replace O_fb := Lib.hid (Own.below O_fb.out hb)
        replace O_rt := Lib.hid (Own.below O_rt.out hb)
        replace O_rb := Lib.hid (Own.below O_rb.out hb)
        replace Y1 := Lib.hid (RdY.below Y1.out hb); replace Y2 := Lib.hid (RdY.below Y2.out hb)
        replace D := Lib.hid (Below.step D.out hb)
        clear hb
        have e_f0 := B_f.out.c0; have e_f1 := B_f.out.c1
        go_wp2_with fail
        refine (impl_ComponentsOf (res1_FlipMeander lp lq) (res2_FlipMeander lp lq) _ _ _ O_ft.out.rd O_fb.out.rd L_ft.out L_fb.out).mono ?_
        rintro e w12 ⟨rfl, hb⟩
        clear e_f0 e_f1
        replace B_m := Lib.hid (Box2.below B_m.out hb)
        replace B_q := Lib.hid (Box2.below B_q.out hb)
        replace B_f := Lib.hid (Box2.below B_f.out hb)
        replace B_r := Lib.hid (Box2.below B_r.out hb)
        replace O_mt := Lib.hid (Own.below O_mt.out hb)
        replace O_mb := Lib.hid (Own.below O_mb.out hb)
        replace O_qt := Lib.hid (Own.below O_qt.out hb)
        replace O_qb := Lib.hid (Own.below O_qb.out hb)
        replace O_ft := Lib.hid (Own.below O_ft.out hb)
        replace O_fb := Lib.hid (Own.below O_fb.out hb)
        replace O_rt := Lib.hid (Own.below O_rt.out hb)
        replace O_rb := Lib.hid (Own.below O_rb.out hb)
        replace Y1 := Lib.hid (RdY.below Y1.out hb); replace Y2 := Lib.hid (RdY.below Y2.out hb)
        replace D := Lib.hid (Below.step D.out hb)
        clear hb
        rw [F6.out]
        have e_r0 := B_r.out.c0; have e_r1 := B_r.out.c1
        go_wp2_with fail
        refine (impl_ComponentsOf (res1_MirrorMeander lp lq) (res2_MirrorMeander lp lq) _ _ _ O_rt.out.rd O_rb.out.rd L_rt.out L_rb.out).mono ?_
        rintro e w13 ⟨rfl, hb⟩
        clear e_r0 e_r1
        replace B_m := Lib.hid (Box2.below B_m.out hb)
        replace B_q := Lib.hid (Box2.below B_q.out hb)
        replace B_f := Lib.hid (Box2.below B_f.out hb)
        replace B_r := Lib.hid (Box2.below B_r.out hb)
        replace O_mt := Lib.hid (Own.below O_mt.out hb)
        replace O_mb := Lib.hid (Own.below O_mb.out hb)
        replace O_qt := Lib.hid (Own.below O_qt.out hb)
        replace O_qb := Lib.hid (Own.below O_qb.out hb)
        replace O_ft := Lib.hid (Own.below O_ft.out hb)
        replace O_fb := Lib.hid (Own.below O_fb.out hb)
        replace O_rt := Lib.hid (Own.below O_rt.out hb)
        replace O_rb := Lib.hid (Own.below O_rb.out hb)
        replace Y1 := Lib.hid (RdY.below Y1.out hb); replace Y2 := Lib.hid (RdY.below Y2.out hb)
        replace D := Lib.hid (Below.step D.out hb)
        clear hb
        rw [F7.out]
        have e_f0 := B_f.out.c0; have e_f1 := B_f.out.c1
        go_wp2_with fail
        refine (impl_FlipMeander (res1_FlipMeander lp lq) (res2_FlipMeander lp lq) _ _ _ O_ft.out.rd O_fb.out.rd L_ft.out L_fb.out).mono ?_
        rintro e w14 ⟨v_bkt, v_bkb, rfl, ho, ho2, _, hb⟩
        obtain ⟨bkta, bktn, bktc, rfl⟩ := ho.form'
        obtain ⟨bkba, bkbn, bkbc, rfl⟩ := ho2.form'
        clear e_f0 e_f1
        replace B_m := Lib.hid (Box2.below B_m.out hb)
        replace B_q := Lib.hid (Box2.below B_q.out hb)
        replace B_f := Lib.hid (Box2.below B_f.out hb)
        replace B_r := Lib.hid (Box2.below B_r.out hb)
        replace O_mt := Lib.hid (Own.below O_mt.out hb)
        replace O_mb := Lib.hid (Own.below O_mb.out hb)
        replace O_qt := Lib.hid (Own.below O_qt.out hb)
        replace O_qb := Lib.hid (Own.below O_qb.out hb)
        replace O_ft := Lib.hid (Own.below O_ft.out hb)
        replace O_fb := Lib.hid (Own.below O_fb.out hb)
        replace O_rt := Lib.hid (Own.below O_rt.out hb)
        replace O_rb := Lib.hid (Own.below O_rb.out hb)
        replace Y1 := Lib.hid (RdY.below Y1.out hb); replace Y2 := Lib.hid (RdY.below Y2.out hb)
        replace D := Lib.hid (Below.step D.out hb)
        clear hb
        have O_bkt := Lib.hid ho; clear ho
        have O_bkb := Lib.hid ho2; clear ho2
        have L_bkt : Hid ((res1_FlipMeander (res1_FlipMeander lp lq) (res2_FlipMeander lp lq)).length ≤ 1048576) := Nat.le_trans (len_FlipMeander (res1_FlipMeander lp lq) (res2_FlipMeander lp lq)).1 (by omega)
        have L_bkb : Hid ((res2_FlipMeander (res1_FlipMeander lp lq) (res2_FlipMeander lp lq)).length ≤ 1048576) := Nat.le_trans (len_FlipMeander (res1_FlipMeander lp lq) (res2_FlipMeander lp lq)).2 (by omega)
        have hb := Below.alloc1 w14 (.cells #[.slice bkta bktn bktc, .slice bkba bkbn bkbc] 26)
        replace B_m := Lib.hid (Box2.below B_m.out hb)
        replace B_q := Lib.hid (Box2.below B_q.out hb)
        replace B_f := Lib.hid (Box2.below B_f.out hb)
        replace B_r := Lib.hid (Box2.below B_r.out hb)
        replace O_mt := Lib.hid (Own.below O_mt.out hb)
        replace O_mb := Lib.hid (Own.below O_mb.out hb)
        replace O_qt := Lib.hid (Own.below O_qt.out hb)
        replace O_qb := Lib.hid (Own.below O_qb.out hb)
        replace O_ft := Lib.hid (Own.below O_ft.out hb)
        replace O_fb := Lib.hid (Own.below O_fb.out hb)
        replace O_rt := Lib.hid (Own.below O_rt.out hb)
        replace O_rb := Lib.hid (Own.below O_rb.out hb)
        replace O_bkt := Lib.hid (Own.below O_bkt.out hb)
        replace O_bkb := Lib.hid (Own.below O_bkb.out hb)
        replace Y1 := Lib.hid (RdY.below Y1.out hb); replace Y2 := Lib.hid (RdY.below Y2.out hb)
        replace D := Lib.hid (Below.step D.out hb)
        clear hb
        have B_bk : Hid (Box2 26 (w14.alloc (.cells #[.slice bkta bktn bktc, .slice bkba bkbn bkbc] 26)) (w14.heap.size) (.slice bkta bktn bktc) (.slice bkba bkbn bkbc)) := Box2.new _ _ _ _
        have e_r0 := B_r.out.c0; have e_r1 := B_r.out.c1
        go_wp2_with fail
        refine (impl_MirrorMeander (res1_MirrorMeander lp lq) (res2_MirrorMeander lp lq) _ _ _ O_rt.out.rd O_rb.out.rd L_rt.out L_rb.out).mono ?_
        rintro e w15 ⟨v_agt, v_agb, rfl, ho, ho2, _, hb⟩
        obtain ⟨agta, agtn, agtc, rfl⟩ := ho.form'
        obtain ⟨agba, agbn, agbc, rfl⟩ := ho2.form'
        clear e_r0 e_r1
        replace B_m := Lib.hid (Box2.below B_m.out hb)
        replace B_q := Lib.hid (Box2.below B_q.out hb)
        replace B_f := Lib.hid (Box2.below B_f.out hb)
        replace B_r := Lib.hid (Box2.below B_r.out hb)
        replace B_bk := Lib.hid (Box2.below B_bk.out hb)
        replace O_mt := Lib.hid (Own.below O_mt.out hb)
        replace O_mb := Lib.hid (Own.below O_mb.out hb)
        replace O_qt := Lib.hid (Own.below O_qt.out hb)
        replace O_qb := Lib.hid (Own.below O_qb.out hb)
        replace O_ft := Lib.hid (Own.below O_ft.out hb)
        replace O_fb := Lib.hid (Own.below O_fb.out hb)
        replace O_rt := Lib.hid (Own.below O_rt.out hb)
        replace O_rb := Lib.hid (Own.below O_rb.out hb)
        replace O_bkt := Lib.hid (Own.below O_bkt.out hb)
        replace O_bkb := Lib.hid (Own.below O_bkb.out hb)
        replace Y1 := Lib.hid (RdY.below Y1.out hb); replace Y2 := Lib.hid (RdY.below Y2.out hb)
        replace D := Lib.hid (Below.step D.out hb)
        clear hb
        have O_agt := Lib.hid ho; clear ho
        have O_agb := Lib.hid ho2; clear ho2
        have L_agt : Hid ((res1_MirrorMeander (res1_MirrorMeander lp lq) (res2_MirrorMeander lp lq)).length ≤ 1048576) := Nat.le_trans (len_MirrorMeander (res1_MirrorMeander lp lq) (res2_MirrorMeander lp lq)).1 (by omega)
        have L_agb : Hid ((res2_MirrorMeander (res1_MirrorMeander lp lq) (res2_MirrorMeander lp lq)).length ≤ 1048576) := Nat.le_trans (len_MirrorMeander (res1_MirrorMeander lp lq) (res2_MirrorMeander lp lq)).2 (by omega)
        have hb := Below.alloc1 w15 (.cells #[.slice agta agtn agtc, .slice agba agbn agbc] 26)
        replace B_m := Lib.hid (Box2.below B_m.out hb)
        replace B_q := Lib.hid (Box2.below B_q.out hb)
        replace B_f := Lib.hid (Box2.below B_f.out hb)
        replace B_r := Lib.hid (Box2.below B_r.out hb)
        replace B_bk := Lib.hid (Box2.below B_bk.out hb)
        replace O_mt := Lib.hid (Own.below O_mt.out hb)
        replace O_mb := Lib.hid (Own.below O_mb.out hb)
        replace O_qt := Lib.hid (Own.below O_qt.out hb)
        replace O_qb := Lib.hid (Own.below O_qb.out hb)
        replace O_ft := Lib.hid (Own.below O_ft.out hb)
        replace O_fb := Lib.hid (Own.below O_fb.out hb)
        replace O_rt := Lib.hid (Own.below O_rt.out hb)
        replace O_rb := Lib.hid (Own.below O_rb.out hb)
        replace O_bkt := Lib.hid (Own.below O_bkt.out hb)
        replace O_bkb := Lib.hid (Own.below O_bkb.out hb)
        replace O_agt := Lib.hid (Own.below O_agt.out hb)
        replace O_agb := Lib.hid (Own.below O_agb.out hb)
        replace Y1 := Lib.hid (RdY.below Y1.out hb); replace Y2 := Lib.hid (RdY.below Y2.out hb)
        replace D := Lib.hid (Below.step D.out hb)
        clear hb
        have B_ag : Hid (Box2 26 (w15.alloc (.cells #[.slice agta agtn agtc, .slice agba agbn agbc] 26)) (w15.heap.size) (.slice agta agtn agtc) (.slice agba agbn agbc)) := Box2.new _ _ _ _
        have e_bk0 := B_bk.out.c0; have e_bk1 := B_bk.out.c1
        have e_m0 := B_m.out.c0; have e_m1 := B_m.out.c1
        go_wp2_with fail
        refine (sSamePair_yes _ _ _ _ _ _ _ _ _ O_bkt.out.rd O_bkb.out.rd O_mt.out.rd O_mb.out.rd F8.out F9.out).mono ?_
        rintro e w16 ⟨rfl, hb⟩
        clear e_bk0 e_bk1 e_m0 e_m1
        replace B_m := Lib.hid (Box2.below B_m.out hb)
        replace B_q := Lib.hid (Box2.below B_q.out hb)
        replace B_f := Lib.hid (Box2.below B_f.out hb)
        replace B_r := Lib.hid (Box2.below B_r.out hb)
        replace B_bk := Lib.hid (Box2.below B_bk.out hb)
        replace B_ag := Lib.hid (Box2.below B_ag.out hb)
        replace O_mt := Lib.hid (Own.below O_mt.out hb)
        replace O_mb := Lib.hid (Own.below O_mb.out hb)
        replace O_qt := Lib.hid (Own.below O_qt.out hb)
        replace O_qb := Lib.hid (Own.below O_qb.out hb)
        replace O_ft := Lib.hid (Own.below O_ft.out hb)
        replace O_fb := Lib.hid (Own.below O_fb.out hb)
        replace O_rt := Lib.hid (Own.below O_rt.out hb)
        replace O_rb := Lib.hid (Own.below O_rb.out hb)
        replace O_bkt := Lib.hid (Own.below O_bkt.out hb)
        replace O_bkb := Lib.hid (Own.below O_bkb.out hb)
        replace O_agt := Lib.hid (Own.below O_agt.out hb)
        replace O_agb := Lib.hid (Own.below O_agb.out hb)
        replace Y1 := Lib.hid (RdY.below Y1.out hb); replace Y2 := Lib.hid (RdY.below Y2.out hb)
        replace D := Lib.hid (Below.step D.out hb)
        clear hb
        have e_ag0 := B_ag.out.c0; have e_ag1 := B_ag.out.c1
        have e_m0 := B_m.out.c0; have e_m1 := B_m.out.c1
        go_wp2_with fail
        refine (sSamePair_yes _ _ _ _ _ _ _ _ _ O_agt.out.rd O_agb.out.rd O_mt.out.rd O_mb.out.rd F10.out F11.out).mono ?_
        rintro e w17 ⟨rfl, hb⟩
        clear e_ag0 e_ag1 e_m0 e_m1
        replace B_m := Lib.hid (Box2.below B_m.out hb)
        replace B_q := Lib.hid (Box2.below B_q.out hb)
        replace B_f := Lib.hid (Box2.below B_f.out hb)
        replace B_r := Lib.hid (Box2.below B_r.out hb)
        replace B_bk := Lib.hid (Box2.below B_bk.out hb)
        replace B_ag := Lib.hid (Box2.below B_ag.out hb)
        replace O_mt := Lib.hid (Own.below O_mt.out hb)
        replace O_mb := Lib.hid (Own.below O_mb.out hb)
        replace O_qt := Lib.hid (Own.below O_qt.out hb)
        replace O_qb := Lib.hid (Own.below O_qb.out hb)
        replace O_ft := Lib.hid (Own.below O_ft.out hb)
        replace O_fb := Lib.hid (Own.below O_fb.out hb)
        replace O_rt := Lib.hid (Own.below O_rt.out hb)
        replace O_rb := Lib.hid (Own.below O_rb.out hb)
        replace O_bkt := Lib.hid (Own.below O_bkt.out hb)
        replace O_bkb := Lib.hid (Own.below O_bkb.out hb)
        replace O_agt := Lib.hid (Own.below O_agt.out hb)
        replace O_agb := Lib.hid (Own.below O_agb.out hb)
        replace Y1 := Lib.hid (RdY.below Y1.out hb); replace Y2 := Lib.hid (RdY.below Y2.out hb)
        replace D := Lib.hid (Below.step D.out hb)
        clear hb
        clear B_bk
        clear B_ag
        clear O_bkt
        clear O_bkb
        clear O_agt
        clear O_agb
        generalize hT2 : ok_TurnMeander lp lq x = okT2 at *
        cases okT2 with
        | false =>
          go_wp2_with fail
          go_meet
          case rel => exact D.out
        | true =>
          obtain ⟨f1, f2, f3, f4, f5⟩ := law_turnM hT2
          have F3 := Lib.hid f3; have F4 := Lib.hid f4; have F5 := Lib.hid f5
          have hneg : IntKind.i64.wrap (-x) = -x := IntWalk.i64_in _ (by have := HX.out; omega)
          clear f3 f4 f5 hT2
          have e_q0 := B_q.out.c0; have e_q1 := B_q.out.c1
          go_wp2_with fail
          refine (impl_ComponentsOf (res1_TurnMeander lp lq x) (res2_TurnMeander lp lq x) _ _ _ O_qt.out.rd O_qb.out.rd L_qt.out L_qb.out).mono ?_
          rintro e w18 ⟨rfl, hb⟩
          clear e_q0 e_q1
          replace B_m := Lib.hid (Box2.below B_m.out hb)
          replace B_q := Lib.hid (Box2.below B_q.out hb)
          replace B_f := Lib.hid (Box2.below B_f.out hb)
          replace B_r := Lib.hid (Box2.below B_r.out hb)
          replace O_mt := Lib.hid (Own.below O_mt.out hb)
          replace O_mb := Lib.hid (Own.below O_mb.out hb)
          replace O_qt := Lib.hid (Own.below O_qt.out hb)
          replace O_qb := Lib.hid (Own.below O_qb.out hb)
          replace O_ft := Lib.hid (Own.below O_ft.out hb)
          replace O_fb := Lib.hid (Own.below O_fb.out hb)
          replace O_rt := Lib.hid (Own.below O_rt.out hb)
          replace O_rb := Lib.hid (Own.below O_rb.out hb)
          replace Y1 := Lib.hid (RdY.below Y1.out hb); replace Y2 := Lib.hid (RdY.below Y2.out hb)
          replace D := Lib.hid (Below.step D.out hb)
          clear hb
          rw [F3.out]
          have e_q0 := B_q.out.c0; have e_q1 := B_q.out.c1
          go_wp2_with fail
          refine (impl_TurnMeander (res1_TurnMeander lp lq x) (res2_TurnMeander lp lq x) (-x) _ _ _ O_qt.out.rd O_qb.out.rd L_qt.out L_qb.out).mono ?_
          rintro e w19 ⟨v_rot, v_rob, rfl, ho, ho2, _, hb⟩
          obtain ⟨rota, rotn, rotc, rfl⟩ := ho.form'
          obtain ⟨roba, robn, robc, rfl⟩ := ho2.form'
          clear e_q0 e_q1
          replace B_m := Lib.hid (Box2.below B_m.out hb)
          replace B_q := Lib.hid (Box2.below B_q.out hb)
          replace B_f := Lib.hid (Box2.below B_f.out hb)
          replace B_r := Lib.hid (Box2.below B_r.out hb)
          replace O_mt := Lib.hid (Own.below O_mt.out hb)
          replace O_mb := Lib.hid (Own.below O_mb.out hb)
          replace O_qt := Lib.hid (Own.below O_qt.out hb)
          replace O_qb := Lib.hid (Own.below O_qb.out hb)
          replace O_ft := Lib.hid (Own.below O_ft.out hb)
          replace O_fb := Lib.hid (Own.below O_fb.out hb)
          replace O_rt := Lib.hid (Own.below O_rt.out hb)
          replace O_rb := Lib.hid (Own.below O_rb.out hb)
          replace Y1 := Lib.hid (RdY.below Y1.out hb); replace Y2 := Lib.hid (RdY.below Y2.out hb)
          replace D := Lib.hid (Below.step D.out hb)
          clear hb
          have O_rot := Lib.hid ho; clear ho
          have O_rob := Lib.hid ho2; clear ho2
          have L_rot : Hid ((res1_TurnMeander (res1_TurnMeander lp lq x) (res2_TurnMeander lp lq x) (-x)).length ≤ 1048576) := Nat.le_trans (len_TurnMeander (res1_TurnMeander lp lq x) (res2_TurnMeander lp lq x) (-x)).1 (by omega)
          have L_rob : Hid ((res2_TurnMeander (res1_TurnMeander lp lq x) (res2_TurnMeander lp lq x) (-x)).length ≤ 1048576) := Nat.le_trans (len_TurnMeander (res1_TurnMeander lp lq x) (res2_TurnMeander lp lq x) (-x)).2 (by omega)
          have hb := Below.alloc1 w19 (.cells #[.slice rota rotn rotc, .slice roba robn robc] 26)
          replace B_m := Lib.hid (Box2.below B_m.out hb)
          replace B_q := Lib.hid (Box2.below B_q.out hb)
          replace B_f := Lib.hid (Box2.below B_f.out hb)
          replace B_r := Lib.hid (Box2.below B_r.out hb)
          replace O_mt := Lib.hid (Own.below O_mt.out hb)
          replace O_mb := Lib.hid (Own.below O_mb.out hb)
          replace O_qt := Lib.hid (Own.below O_qt.out hb)
          replace O_qb := Lib.hid (Own.below O_qb.out hb)
          replace O_ft := Lib.hid (Own.below O_ft.out hb)
          replace O_fb := Lib.hid (Own.below O_fb.out hb)
          replace O_rt := Lib.hid (Own.below O_rt.out hb)
          replace O_rb := Lib.hid (Own.below O_rb.out hb)
          replace O_rot := Lib.hid (Own.below O_rot.out hb)
          replace O_rob := Lib.hid (Own.below O_rob.out hb)
          replace Y1 := Lib.hid (RdY.below Y1.out hb); replace Y2 := Lib.hid (RdY.below Y2.out hb)
          replace D := Lib.hid (Below.step D.out hb)
          clear hb
          have B_ro : Hid (Box2 26 (w19.alloc (.cells #[.slice rota rotn rotc, .slice roba robn robc] 26)) (w19.heap.size) (.slice rota rotn rotc) (.slice roba robn robc)) := Box2.new _ _ _ _
          have e_ro0 := B_ro.out.c0; have e_ro1 := B_ro.out.c1
          have e_m0 := B_m.out.c0; have e_m1 := B_m.out.c1
          go_wp2_with fail
          refine (sSamePair_yes _ _ _ _ _ _ _ _ _ O_rot.out.rd O_rob.out.rd O_mt.out.rd O_mb.out.rd F4.out F5.out).mono ?_
          rintro e w20 ⟨rfl, hb⟩
          clear e_ro0 e_ro1 e_m0 e_m1
          replace B_m := Lib.hid (Box2.below B_m.out hb)
          replace B_q := Lib.hid (Box2.below B_q.out hb)
          replace B_f := Lib.hid (Box2.below B_f.out hb)
          replace B_r := Lib.hid (Box2.below B_r.out hb)
          replace B_ro := Lib.hid (Box2.below B_ro.out hb)
          replace O_mt := Lib.hid (Own.below O_mt.out hb)
          replace O_mb := Lib.hid (Own.below O_mb.out hb)
          replace O_qt := Lib.hid (Own.below O_qt.out hb)
          replace O_qb := Lib.hid (Own.below O_qb.out hb)
          replace O_ft := Lib.hid (Own.below O_ft.out hb)
          replace O_fb := Lib.hid (Own.below O_fb.out hb)
          replace O_rt := Lib.hid (Own.below O_rt.out hb)
          replace O_rb := Lib.hid (Own.below O_rb.out hb)
          replace O_rot := Lib.hid (Own.below O_rot.out hb)
          replace O_rob := Lib.hid (Own.below O_rob.out hb)
          replace Y1 := Lib.hid (RdY.below Y1.out hb); replace Y2 := Lib.hid (RdY.below Y2.out hb)
          replace D := Lib.hid (Below.step D.out hb)
          clear hb
          go_wp2_with fail
          go_meet
          case rel => exact D.out
  case rest =>
  as_aux_lemma =>
  have hb := hcut.out; clear hcut
  generalize wc = w21 at *
  replace B_m := Lib.hid (Box2.below B_m.out hb)
  replace B_q := Lib.hid (Box2.below B_q.out hb)
  replace B_f := Lib.hid (Box2.below B_f.out hb)
  replace B_r := Lib.hid (Box2.below B_r.out hb)
  replace O_mt := Lib.hid (Own.below O_mt.out hb)
  replace O_mb := Lib.hid (Own.below O_mb.out hb)
  replace O_qt := Lib.hid (Own.below O_qt.out hb)
  replace O_qb := Lib.hid (Own.below O_qb.out hb)
  replace O_ft := Lib.hid (Own.below O_ft.out hb)
  replace O_fb := Lib.hid (Own.below O_fb.out hb)
  replace O_rt := Lib.hid (Own.below O_rt.out hb)
  replace O_rb := Lib.hid (Own.below O_rb.out hb)
  replace Y1 := Lib.hid (RdY.below Y1.out hb); replace Y2 := Lib.hid (RdY.below Y2.out hb)
  replace C := Lib.hid (Below.step C.out hb)
  clear hb
  clear hT
  clear B_m
  clear B_q
  clear B_f
  clear B_r
  clear O_mt
  clear O_mb
  clear O_qt
  clear O_qb
  clear O_ft
  clear O_fb
  clear O_rt
  clear O_rb
  go_wp2_with fail
  refine (drawJoinMeanders_any _ l2 _ Y2.out).mono ?_
  rintro e w22 ⟨v_a, v_b, v_c, v_d, la, lb, lc, ld, rfl, ho, ho2, ho3, ho4, hl, hl2, hl3, hl4, hb⟩
  obtain ⟨ata, atn, atc, rfl⟩ := ho.form'
  obtain ⟨aba, abn, abc, rfl⟩ := ho2.form'
  obtain ⟨bta, btn, btc, rfl⟩ := ho3.form'
  obtain ⟨bba, bbn, bbc, rfl⟩ := ho4.form'
  have LA := Lib.hid hl; have LB := Lib.hid hl2; have LC := Lib.hid hl3; have LD := Lib.hid hl4; clear hl hl2 hl3 hl4
  replace Y1 := Lib.hid (RdY.below Y1.out hb); replace Y2 := Lib.hid (RdY.below Y2.out hb)
  replace C := Lib.hid (Below.step C.out hb)
  clear hb
  have O_at := Lib.hid ho; clear ho
  have O_ab := Lib.hid ho2; clear ho2
  have O_bt := Lib.hid ho3; clear ho3
  have O_bb := Lib.hid ho4; clear ho4
  have hb := Below.alloc1 w22 (.cells #[.slice ata atn atc, .slice aba abn abc] 26)
  replace O_at := Lib.hid (Own.below O_at.out hb)
  replace O_ab := Lib.hid (Own.below O_ab.out hb)
  replace O_bt := Lib.hid (Own.below O_bt.out hb)
  replace O_bb := Lib.hid (Own.below O_bb.out hb)
  replace Y1 := Lib.hid (RdY.below Y1.out hb); replace Y2 := Lib.hid (RdY.below Y2.out hb)
  replace C := Lib.hid (Below.step C.out hb)
  clear hb
  have B_a : Hid (Box2 26 (w22.alloc (.cells #[.slice ata atn atc, .slice aba abn abc] 26)) (w22.heap.size) (.slice ata atn atc) (.slice aba abn abc)) := Box2.new _ _ _ _
  have hb := Below.alloc1 (w22.alloc (.cells #[.slice ata atn atc, .slice aba abn abc] 26)) (.cells #[.slice bta btn btc, .slice bba bbn bbc] 26)
  replace B_a := Lib.hid (Box2.below B_a.out hb)
  replace O_at := Lib.hid (Own.below O_at.out hb)
  replace O_ab := Lib.hid (Own.below O_ab.out hb)
  replace O_bt := Lib.hid (Own.below O_bt.out hb)
  replace O_bb := Lib.hid (Own.below O_bb.out hb)
  replace Y1 := Lib.hid (RdY.below Y1.out hb); replace Y2 := Lib.hid (RdY.below Y2.out hb)
  replace C := Lib.hid (Below.step C.out hb)
  clear hb
  have B_b : Hid (Box2 26 ((w22.alloc (.cells #[.slice ata atn atc, .slice aba abn abc] 26)).alloc (.cells #[.slice bta btn btc, .slice bba bbn bbc] 26)) (w22.heap.size + 1) (.slice bta btn btc) (.slice bba bbn bbc)) := by have h := Box2.new 26 (w22.alloc (.cells #[.slice ata atn atc, .slice aba abn abc] 26)) (.slice bta btn btc) (.slice bba bbn bbc); rw [World.size_alloc] at h; exact h
  have e_a0 := B_a.out.c0; have e_a1 := B_a.out.c1
  have e_b0 := B_b.out.c0; have e_b1 := B_b.out.c1
  go_wp2_with fail
  refine (impl_JoinMeanders la lb lc ld _ _ _ _ _ O_at.out.rd O_ab.out.rd O_bt.out.rd O_bb.out.rd (by have := LA.out; omega) (by have := LB.out; omega) (by have := LC.out; omega) (by have := LD.out; omega)).mono ?_
  rintro e w23 ⟨v_jt, v_jb, rfl, ho, ho2, _, hb⟩
  obtain ⟨jta, jtn, jtc, rfl⟩ := ho.form'
  obtain ⟨jba, jbn, jbc, rfl⟩ := ho2.form'
  clear e_a0 e_a1 e_b0 e_b1
  replace B_a := Lib.hid (Box2.below B_a.out hb)
  replace B_b := Lib.hid (Box2.below B_b.out hb)
  replace O_at := Lib.hid (Own.below O_at.out hb)
  replace O_ab := Lib.hid (Own.below O_ab.out hb)
  replace O_bt := Lib.hid (Own.below O_bt.out hb)
  replace O_bb := Lib.hid (Own.below O_bb.out hb)
  replace Y1 := Lib.hid (RdY.below Y1.out hb); replace Y2 := Lib.hid (RdY.below Y2.out hb)
  replace C := Lib.hid (Below.step C.out hb)
  clear hb
  have O_jt := Lib.hid ho; clear ho
  have O_jb := Lib.hid ho2; clear ho2
  have L_jt : Hid ((res1_JoinMeanders la lb lc ld).length ≤ 1048576) := Nat.le_trans (len_JoinMeanders la lb lc ld).1 (by omega)
  have L_jb : Hid ((res2_JoinMeanders la lb lc ld).length ≤ 1048576) := Nat.le_trans (len_JoinMeanders la lb lc ld).2 (by omega)
  have hb := Below.alloc1 w23 (.cells #[.slice jta jtn jtc, .slice jba jbn jbc] 26)
  replace B_a := Lib.hid (Box2.below B_a.out hb)
  replace B_b := Lib.hid (Box2.below B_b.out hb)
  replace O_at := Lib.hid (Own.below O_at.out hb)
  replace O_ab := Lib.hid (Own.below O_ab.out hb)
  replace O_bt := Lib.hid (Own.below O_bt.out hb)
  replace O_bb := Lib.hid (Own.below O_bb.out hb)
  replace O_jt := Lib.hid (Own.below O_jt.out hb)
  replace O_jb := Lib.hid (Own.below O_jb.out hb)
  replace Y1 := Lib.hid (RdY.below Y1.out hb); replace Y2 := Lib.hid (RdY.below Y2.out hb)
  replace C := Lib.hid (Below.step C.out hb)
  clear hb
  have B_j : Hid (Box2 26 (w23.alloc (.cells #[.slice jta jtn jtc, .slice jba jbn jbc] 26)) (w23.heap.size) (.slice jta jtn jtc) (.slice jba jbn jbc)) := Box2.new _ _ _ _
  have e_a0 := B_a.out.c0; have e_a1 := B_a.out.c1
  have e_b0 := B_b.out.c0; have e_b1 := B_b.out.c1
  go_wp2_with fail
  refine (spec_JoinMeanders la lb lc ld _ _ _ _ _ O_at.out.rd O_ab.out.rd O_bt.out.rd O_bb.out.rd (by have := LA.out; omega) (by have := LB.out; omega) (by have := LC.out; omega) (by have := LD.out; omega)).mono ?_
  rintro e w24 ⟨v_jwt, v_jwb, rfl, ho, ho2, _, hb⟩
  obtain ⟨jwta, jwtn, jwtc, rfl⟩ := ho.form'
  obtain ⟨jwba, jwbn, jwbc, rfl⟩ := ho2.form'
  clear e_a0 e_a1 e_b0 e_b1
  replace B_a := Lib.hid (Box2.below B_a.out hb)
  replace B_b := Lib.hid (Box2.below B_b.out hb)
  replace B_j := Lib.hid (Box2.below B_j.out hb)
  replace O_at := Lib.hid (Own.below O_at.out hb)
  replace O_ab := Lib.hid (Own.below O_ab.out hb)
  replace O_bt := Lib.hid (Own.below O_bt.out hb)
  replace O_bb := Lib.hid (Own.below O_bb.out hb)
  replace O_jt := Lib.hid (Own.below O_jt.out hb)
  replace O_jb := Lib.hid (Own.below O_jb.out hb)
  replace Y1 := Lib.hid (RdY.below Y1.out hb); replace Y2 := Lib.hid (RdY.below Y2.out hb)
  replace C := Lib.hid (Below.step C.out hb)
  clear hb
  have O_jwt := Lib.hid ho; clear ho
  have O_jwb := Lib.hid ho2; clear ho2
  have L_jwt : Hid ((res1_JoinMeanders la lb lc ld).length ≤ 1048576) := Nat.le_trans (len_JoinMeanders la lb lc ld).1 (by omega)
  have L_jwb : Hid ((res2_JoinMeanders la lb lc ld).length ≤ 1048576) := Nat.le_trans (len_JoinMeanders la lb lc ld).2 (by omega)
  have hb := Below.alloc1 w24 (.cells #[.slice jwta jwtn jwtc, .slice jwba jwbn jwbc] 26)
  replace B_a := Lib.hid (Box2.below B_a.out hb)
  replace B_b := Lib.hid (Box2.below B_b.out hb)
  replace B_j := Lib.hid (Box2.below B_j.out hb)
  replace O_at := Lib.hid (Own.below O_at.out hb)
  replace O_ab := Lib.hid (Own.below O_ab.out hb)
  replace O_bt := Lib.hid (Own.below O_bt.out hb)
  replace O_bb := Lib.hid (Own.below O_bb.out hb)
  replace O_jt := Lib.hid (Own.below O_jt.out hb)
  replace O_jb := Lib.hid (Own.below O_jb.out hb)
  replace O_jwt := Lib.hid (Own.below O_jwt.out hb)
  replace O_jwb := Lib.hid (Own.below O_jwb.out hb)
  replace Y1 := Lib.hid (RdY.below Y1.out hb); replace Y2 := Lib.hid (RdY.below Y2.out hb)
  replace C := Lib.hid (Below.step C.out hb)
  clear hb
  have B_jw : Hid (Box2 26 (w24.alloc (.cells #[.slice jwta jwtn jwtc, .slice jwba jwbn jwbc] 26)) (w24.heap.size) (.slice jwta jwtn jwtc) (.slice jwba jwbn jwbc)) := Box2.new _ _ _ _
  have e_j0 := B_j.out.c0; have e_j1 := B_j.out.c1
  have e_jw0 := B_jw.out.c0; have e_jw1 := B_jw.out.c1
  go_wp2_with fail
  refine (sSamePair_yes _ _ _ _ _ _ _ _ _ O_jt.out.rd O_jb.out.rd O_jwt.out.rd O_jwb.out.rd rfl rfl).mono ?_
  rintro e w25 ⟨rfl, hb⟩
  clear e_j0 e_j1 e_jw0 e_jw1
  replace B_a := Lib.hid (Box2.below B_a.out hb)
  replace B_b := Lib.hid (Box2.below B_b.out hb)
  replace B_j := Lib.hid (Box2.below B_j.out hb)
  replace B_jw := Lib.hid (Box2.below B_jw.out hb)
  replace O_at := Lib.hid (Own.below O_at.out hb)
  replace O_ab := Lib.hid (Own.below O_ab.out hb)
  replace O_bt := Lib.hid (Own.below O_bt.out hb)
  replace O_bb := Lib.hid (Own.below O_bb.out hb)
  replace O_jt := Lib.hid (Own.below O_jt.out hb)
  replace O_jb := Lib.hid (Own.below O_jb.out hb)
  replace O_jwt := Lib.hid (Own.below O_jwt.out hb)
  replace O_jwb := Lib.hid (Own.below O_jwb.out hb)
  replace Y1 := Lib.hid (RdY.below Y1.out hb); replace Y2 := Lib.hid (RdY.below Y2.out hb)
  replace C := Lib.hid (Below.step C.out hb)
  clear hb
  clear B_jw
  clear O_jwt
  clear O_jwb
  generalize hT : ok_JoinMeanders la lb lc ld = okT at *
  go_upto_if 252 with fail
  go_cut [] (fun wx => Hid (Below w25.heap.size w25 wx))
  case first =>
    as_aux_lemma =>
      have D : Hid (Below w25.heap.size w25 w25) := Below.refl _ _
      cases okT with
      | false =>
        go_wp2_with fail
        go_meet
        case rel => exact D.out
      | true =>
        obtain ⟨f1, f2, f3, f4⟩ := law_joinM hT
        have F4 := Lib.hid f4; clear f4 hT
        have hc1 := res_Comp_bd la lb; have hc2 := res_Comp_bd lc ld
        have e_a0 := B_a.out.c0; have e_a1 := B_a.out.c1
        go_wp2_with fail
        refine (impl_ComponentsOf la lb _ _ _ O_at.out.rd O_ab.out.rd (by have := LA.out; omega) (by have := LB.out; omega)).mono ?_
        rintro e w26 ⟨rfl, hb⟩
        clear e_a0 e_a1
        replace B_a := Lib.hid (Box2.below B_a.out hb)
        replace B_b := Lib.hid (Box2.below B_b.out hb)
        replace B_j := Lib.hid (Box2.below B_j.out hb)
        replace O_at := Lib.hid (Own.below O_at.out hb)
        replace O_ab := Lib.hid (Own.below O_ab.out hb)
        replace O_bt := Lib.hid (Own.below O_bt.out hb)
        replace O_bb := Lib.hid (Own.below O_bb.out hb)
        replace O_jt := Lib.hid (Own.below O_jt.out hb)
        replace O_jb := Lib.hid (Own.below O_jb.out hb)
        replace Y1 := Lib.hid (RdY.below Y1.out hb); replace Y2 := Lib.hid (RdY.below Y2.out hb)
        replace D := Lib.hid (Below.step D.out hb)
        clear hb
        have e_b0 := B_b.out.c0; have e_b1 := B_b.out.c1
        go_wp2_with fail
        refine (impl_ComponentsOf lc ld _ _ _ O_bt.out.rd O_bb.out.rd (by have := LC.out; omega) (by have := LD.out; omega)).mono ?_
        rintro e w27 ⟨rfl, hb⟩
        clear e_b0 e_b1
        replace B_a := Lib.hid (Box2.below B_a.out hb)
        replace B_b := Lib.hid (Box2.below B_b.out hb)
        replace B_j := Lib.hid (Box2.below B_j.out hb)
        replace O_at := Lib.hid (Own.below O_at.out hb)
        replace O_ab := Lib.hid (Own.below O_ab.out hb)
        replace O_bt := Lib.hid (Own.below O_bt.out hb)
        replace O_bb := Lib.hid (Own.below O_bb.out hb)
        replace O_jt := Lib.hid (Own.below O_jt.out hb)
        replace O_jb := Lib.hid (Own.below O_jb.out hb)
        replace Y1 := Lib.hid (RdY.below Y1.out hb); replace Y2 := Lib.hid (RdY.below Y2.out hb)
        replace D := Lib.hid (Below.step D.out hb)
        clear hb
        have e_j0 := B_j.out.c0; have e_j1 := B_j.out.c1
        go_wp2_with fail
        refine (impl_ComponentsOf (res1_JoinMeanders la lb lc ld) (res2_JoinMeanders la lb lc ld) _ _ _ O_jt.out.rd O_jb.out.rd L_jt.out L_jb.out).mono ?_
        rintro e w28 ⟨rfl, hb⟩
        clear e_j0 e_j1
        replace B_a := Lib.hid (Box2.below B_a.out hb)
        replace B_b := Lib.hid (Box2.below B_b.out hb)
        replace B_j := Lib.hid (Box2.below B_j.out hb)
        replace O_at := Lib.hid (Own.below O_at.out hb)
        replace O_ab := Lib.hid (Own.below O_ab.out hb)
        replace O_bt := Lib.hid (Own.below O_bt.out hb)
        replace O_bb := Lib.hid (Own.below O_bb.out hb)
        replace O_jt := Lib.hid (Own.below O_jt.out hb)
        replace O_jb := Lib.hid (Own.below O_jb.out hb)
        replace Y1 := Lib.hid (RdY.below Y1.out hb); replace Y2 := Lib.hid (RdY.below Y2.out hb)
        replace D := Lib.hid (Below.step D.out hb)
        clear hb
        rw [F4.out]
        generalize res_ComponentsOf la lb = c1 at *
        generalize res_ComponentsOf lc ld = c2 at *
        have hw : IntKind.i64.wrap (c1 + c2) = c1 + c2 := IntWalk.i64_in _ (by omega)
        go_wp2_with fail
        go_meet
        case rel => exact D.out
  case rest =>
  as_aux_lemma =>
  have hb := hcut.out; clear hcut
  generalize wc = w29 at *
  replace B_a := Lib.hid (Box2.below B_a.out hb)
  replace B_b := Lib.hid (Box2.below B_b.out hb)
  replace B_j := Lib.hid (Box2.below B_j.out hb)
  replace O_at := Lib.hid (Own.below O_at.out hb)
  replace O_ab := Lib.hid (Own.below O_ab.out hb)
  replace O_bt := Lib.hid (Own.below O_bt.out hb)
  replace O_bb := Lib.hid (Own.below O_bb.out hb)
  replace O_jt := Lib.hid (Own.below O_jt.out hb)
  replace O_jb := Lib.hid (Own.below O_jb.out hb)
  replace Y1 := Lib.hid (RdY.below Y1.out hb); replace Y2 := Lib.hid (RdY.below Y2.out hb)
  replace C := Lib.hid (Below.step C.out hb)
  clear hb
  clear hT
  clear B_a
  clear B_b
  clear B_j
  clear O_at
  clear O_ab
  clear O_bt
  clear O_bb
  clear O_jt
  clear O_jb
  go_wp2_with fail
  refine (drawParseMeander_any _ l2 _ Y2.out).mono ?_
  rintro e w30 ⟨s, rfl, hs, hb⟩
  have HS := Lib.hid hs; clear hs
  replace Y1 := Lib.hid (RdY.below Y1.out hb); replace Y2 := Lib.hid (RdY.below Y2.out hb)
  replace C := Lib.hid (Below.step C.out hb)
  clear hb
  go_wp2_with fail
  refine (impl_ParseMeander s _ (by have := HS.out; omega)).mono ?_
  rintro e w31 ⟨v_rdt, v_rdb, rfl, ho, ho2, _, hb⟩
  obtain ⟨rdta, rdtn, rdtc, rfl⟩ := ho.form'
  obtain ⟨rdba, rdbn, rdbc, rfl⟩ := ho2.form'
  replace Y1 := Lib.hid (RdY.below Y1.out hb); replace Y2 := Lib.hid (RdY.below Y2.out hb)
  replace C := Lib.hid (Below.step C.out hb)
  clear hb
  have O_rdt := Lib.hid ho; clear ho
  have O_rdb := Lib.hid ho2; clear ho2
  have L_rdt : Hid ((res1_ParseMeander s).length ≤ 1048576) := Nat.le_trans (len_ParseMeander s).1 (by omega)
  have L_rdb : Hid ((res2_ParseMeander s).length ≤ 1048576) := Nat.le_trans (len_ParseMeander s).2 (by omega)
  have hb := Below.alloc1 w31 (.cells #[.slice rdta rdtn rdtc, .slice rdba rdbn rdbc] 26)
  replace O_rdt := Lib.hid (Own.below O_rdt.out hb)
  replace O_rdb := Lib.hid (Own.below O_rdb.out hb)
  replace Y1 := Lib.hid (RdY.below Y1.out hb); replace Y2 := Lib.hid (RdY.below Y2.out hb)
  replace C := Lib.hid (Below.step C.out hb)
  clear hb
  have B_rd : Hid (Box2 26 (w31.alloc (.cells #[.slice rdta rdtn rdtc, .slice rdba rdbn rdbc] 26)) (w31.heap.size) (.slice rdta rdtn rdtc) (.slice rdba rdbn rdbc)) := Box2.new _ _ _ _
  go_wp2_with fail
  refine (spec_ParseMeander s _ (by have := HS.out; omega)).mono ?_
  rintro e w32 ⟨v_rdwt, v_rdwb, rfl, ho, ho2, _, hb⟩
  obtain ⟨rdwta, rdwtn, rdwtc, rfl⟩ := ho.form'
  obtain ⟨rdwba, rdwbn, rdwbc, rfl⟩ := ho2.form'
  replace B_rd := Lib.hid (Box2.below B_rd.out hb)
  replace O_rdt := Lib.hid (Own.below O_rdt.out hb)
  replace O_rdb := Lib.hid (Own.below O_rdb.out hb)
  replace Y1 := Lib.hid (RdY.below Y1.out hb); replace Y2 := Lib.hid (RdY.below Y2.out hb)
  replace C := Lib.hid (Below.step C.out hb)
  clear hb
  have O_rdwt := Lib.hid ho; clear ho
  have O_rdwb := Lib.hid ho2; clear ho2
  have L_rdwt : Hid ((res1_ParseMeander s).length ≤ 1048576) := Nat.le_trans (len_ParseMeander s).1 (by omega)
  have L_rdwb : Hid ((res2_ParseMeander s).length ≤ 1048576) := Nat.le_trans (len_ParseMeander s).2 (by omega)
  have hb := Below.alloc1 w32 (.cells #[.slice rdwta rdwtn rdwtc, .slice rdwba rdwbn rdwbc] 26)
  replace B_rd := Lib.hid (Box2.below B_rd.out hb)
  replace O_rdt := Lib.hid (Own.below O_rdt.out hb)
  replace O_rdb := Lib.hid (Own.below O_rdb.out hb)
  replace O_rdwt := Lib.hid (Own.below O_rdwt.out hb)
  replace O_rdwb := Lib.hid (Own.below O_rdwb.out hb)
  replace Y1 := Lib.hid (RdY.below Y1.out hb); replace Y2 := Lib.hid (RdY.below Y2.out hb)
  replace C := Lib.hid (Below.step C.out hb)
  clear hb
  have B_rdw : Hid (Box2 26 (w32.alloc (.cells #[.slice rdwta rdwtn rdwtc, .slice rdwba rdwbn rdwbc] 26)) (w32.heap.size) (.slice rdwta rdwtn rdwtc) (.slice rdwba rdwbn rdwbc)) := Box2.new _ _ _ _
  have e_rd0 := B_rd.out.c0; have e_rd1 := B_rd.out.c1
  have e_rdw0 := B_rdw.out.c0; have e_rdw1 := B_rdw.out.c1
  go_wp2_with fail
  refine (sSamePair_yes _ _ _ _ _ _ _ _ _ O_rdt.out.rd O_rdb.out.rd O_rdwt.out.rd O_rdwb.out.rd rfl rfl).mono ?_
  rintro e w33 ⟨rfl, hb⟩
  clear e_rd0 e_rd1 e_rdw0 e_rdw1
  replace B_rd := Lib.hid (Box2.below B_rd.out hb)
  replace B_rdw := Lib.hid (Box2.below B_rdw.out hb)
  replace O_rdt := Lib.hid (Own.below O_rdt.out hb)
  replace O_rdb := Lib.hid (Own.below O_rdb.out hb)
  replace O_rdwt := Lib.hid (Own.below O_rdwt.out hb)
  replace O_rdwb := Lib.hid (Own.below O_rdwb.out hb)
  replace Y1 := Lib.hid (RdY.below Y1.out hb); replace Y2 := Lib.hid (RdY.below Y2.out hb)
  replace C := Lib.hid (Below.step C.out hb)
  clear hb
  clear B_rdw
  clear O_rdwt
  clear O_rdwb
  generalize hT : ok_ParseMeander s = okT at *
  go_upto_if 306 with fail
  go_cut [] (fun wx => Hid (Below w33.heap.size w33 wx))
  case first =>
    as_aux_lemma =>
      have D : Hid (Below w33.heap.size w33 w33) := Below.refl _ _
      cases okT with
      | false =>
        go_wp2_with fail
        go_meet
        case rel => exact D.out
      | true =>
        obtain ⟨f1, f2⟩ := law_parseM hT
        have F2 := Lib.hid f2; clear f2 hT
        have e_rd0 := B_rd.out.c0; have e_rd1 := B_rd.out.c1
        go_wp2_with fail
        refine (impl_MeanderText (res1_ParseMeander s) (res2_ParseMeander s) _ _ _ O_rdt.out.rd O_rdb.out.rd L_rdt.out L_rdb.out).mono ?_
        rintro e w34 ⟨rfl, hb⟩
        clear e_rd0 e_rd1
        replace B_rd := Lib.hid (Box2.below B_rd.out hb)
        replace O_rdt := Lib.hid (Own.below O_rdt.out hb)
        replace O_rdb := Lib.hid (Own.below O_rdb.out hb)
        replace Y1 := Lib.hid (RdY.below Y1.out hb); replace Y2 := Lib.hid (RdY.below Y2.out hb)
        replace D := Lib.hid (Below.step D.out hb)
        clear hb
        rw [F2.out]
        go_wp2_with fail
        go_meet
        case rel => exact D.out
  case rest =>
  as_aux_lemma =>
  have hb := hcut.out; clear hcut
  generalize wc = w35 at *
  replace B_rd := Lib.hid (Box2.below B_rd.out hb)
  replace O_rdt := Lib.hid (Own.below O_rdt.out hb)
  replace O_rdb := Lib.hid (Own.below O_rdb.out hb)
  replace Y1 := Lib.hid (RdY.below Y1.out hb); replace Y2 := Lib.hid (RdY.below Y2.out hb)
  replace C := Lib.hid (Below.step C.out hb)
  clear hb
  clear hT
  clear B_rd
  clear O_rdt
  clear O_rdb
  go_wp2_with fail
  refine (drawMeanderText_any _ l1 _ Y1.out).mono ?_
  rintro e w36 ⟨v_u, v_v, lu, lv, rfl, ho, ho2, hl, hl2, hb⟩
  obtain ⟨uta, utn, utc, rfl⟩ := ho.form'
  obtain ⟨uba, ubn, ubc, rfl⟩ := ho2.form'
  have LU := Lib.hid hl; have LV := Lib.hid hl2; clear hl hl2
  replace Y1 := Lib.hid (RdY.below Y1.out hb); replace Y2 := Lib.hid (RdY.below Y2.out hb)
  replace C := Lib.hid (Below.step C.out hb)
  clear hb
  have O_ut := Lib.hid ho; clear ho
  have O_ub := Lib.hid ho2; clear ho2
  have hb := Below.alloc1 w36 (.cells #[.slice uta utn utc, .slice uba ubn ubc] 26)
  replace O_ut := Lib.hid (Own.below O_ut.out hb)
  replace O_ub := Lib.hid (Own.below O_ub.out hb)
  replace Y1 := Lib.hid (RdY.below Y1.out hb); replace Y2 := Lib.hid (RdY.below Y2.out hb)
  replace C := Lib.hid (Below.step C.out hb)
  clear hb
  have B_u : Hid (Box2 26 (w36.alloc (.cells #[.slice uta utn utc, .slice uba ubn ubc] 26)) (w36.heap.size) (.slice uta utn utc) (.slice uba ubn ubc)) := Box2.new _ _ _ _
  have hts : Hid ((res_MeanderText lu lv).size ≤ 1048576) := by have := pairText_size lu lv; show _ ≤ _; omega
  have e_u0 := B_u.out.c0; have e_u1 := B_u.out.c1
  go_wp2_with fail
  refine (impl_MeanderText lu lv _ _ _ O_ut.out.rd O_ub.out.rd (by have := LU.out; omega) (by have := LV.out; omega)).mono ?_
  rintro e w37 ⟨rfl, hb⟩
  clear e_u0 e_u1
  replace B_u := Lib.hid (Box2.below B_u.out hb)
  replace O_ut := Lib.hid (Own.below O_ut.out hb)
  replace O_ub := Lib.hid (Own.below O_ub.out hb)
  replace Y1 := Lib.hid (RdY.below Y1.out hb); replace Y2 := Lib.hid (RdY.below Y2.out hb)
  replace C := Lib.hid (Below.step C.out hb)
  clear hb
  have e_u0 := B_u.out.c0; have e_u1 := B_u.out.c1
  go_wp2_with fail
  refine (spec_MeanderText lu lv _ _ _ O_ut.out.rd O_ub.out.rd (by have := LU.out; omega) (by have := LV.out; omega)).mono ?_
  rintro e w38 ⟨rfl, hb⟩
  clear e_u0 e_u1
  replace B_u := Lib.hid (Box2.below B_u.out hb)
  replace O_ut := Lib.hid (Own.below O_ut.out hb)
  replace O_ub := Lib.hid (Own.below O_ub.out hb)
  replace Y1 := Lib.hid (RdY.below Y1.out hb); replace Y2 := Lib.hid (RdY.below Y2.out hb)
  replace C := Lib.hid (Below.step C.out hb)
  clear hb
  cases hT : ok_MeanderText lu lv with
  | false =>
    go_wp2_with fail
    go_ret
    exact ⟨rfl, C.out⟩
  | true =>
    obtain ⟨f1, f2, f3⟩ := law_textM hT
    have F2 := Lib.hid f2; have F3 := Lib.hid f3; clear f2 f3 hT
    go_wp2_with fail
    refine (impl_ParseMeander (res_MeanderText lu lv) _ hts.out).mono ?_
    rintro e w39 ⟨v_bkt, v_bkb, rfl, ho, ho2, _, hb⟩
    obtain ⟨bkta, bktn, bktc, rfl⟩ := ho.form'
    obtain ⟨bkba, bkbn, bkbc, rfl⟩ := ho2.form'
    replace B_u := Lib.hid (Box2.below B_u.out hb)
    replace O_ut := Lib.hid (Own.below O_ut.out hb)
    replace O_ub := Lib.hid (Own.below O_ub.out hb)
    replace Y1 := Lib.hid (RdY.below Y1.out hb); replace Y2 := Lib.hid (RdY.below Y2.out hb)
    replace C := Lib.hid (Below.step C.out hb)
    clear hb
    have O_bkt := Lib.hid ho; clear ho
    have O_bkb := Lib.hid ho2; clear ho2
    have L_bkt : Hid ((res1_ParseMeander (res_MeanderText lu lv)).length ≤ 1048576) := Nat.le_trans (len_ParseMeander (res_MeanderText lu lv)).1 (by omega)
    have L_bkb : Hid ((res2_ParseMeander (res_MeanderText lu lv)).length ≤ 1048576) := Nat.le_trans (len_ParseMeander (res_MeanderText lu lv)).2 (by omega)
    have hb := Below.alloc1 w39 (.cells #[.slice bkta bktn bktc, .slice bkba bkbn bkbc] 26)
    replace B_u := Lib.hid (Box2.below B_u.out hb)
    replace O_ut := Lib.hid (Own.below O_ut.out hb)
    replace O_ub := Lib.hid (Own.below O_ub.out hb)
    replace O_bkt := Lib.hid (Own.below O_bkt.out hb)
    replace O_bkb := Lib.hid (Own.below O_bkb.out hb)
    replace Y1 := Lib.hid (RdY.below Y1.out hb); replace Y2 := Lib.hid (RdY.below Y2.out hb)
    replace C := Lib.hid (Below.step C.out hb)
    clear hb
    have B_bk : Hid (Box2 26 (w39.alloc (.cells #[.slice bkta bktn bktc, .slice bkba bkbn bkbc] 26)) (w39.heap.size) (.slice bkta bktn bktc) (.slice bkba bkbn bkbc)) := Box2.new _ _ _ _
    have e_bk0 := B_bk.out.c0; have e_bk1 := B_bk.out.c1
    have e_u0 := B_u.out.c0; have e_u1 := B_u.out.c1
    go_wp2_with fail
    refine (sSamePair_yes _ _ _ _ _ _ _ _ _ O_bkt.out.rd O_bkb.out.rd O_ut.out.rd O_ub.out.rd F2.out F3.out).mono ?_
    rintro e w40 ⟨rfl, hb⟩
    clear e_bk0 e_bk1 e_u0 e_u1
    replace B_u := Lib.hid (Box2.below B_u.out hb)
    replace B_bk := Lib.hid (Box2.below B_bk.out hb)
    replace O_ut := Lib.hid (Own.below O_ut.out hb)
    replace O_ub := Lib.hid (Own.below O_ub.out hb)
    replace O_bkt := Lib.hid (Own.below O_bkt.out hb)
    replace O_bkb := Lib.hid (Own.below O_bkb.out hb)
    replace Y1 := Lib.hid (RdY.below Y1.out hb); replace Y2 := Lib.hid (RdY.below Y2.out hb)
    replace C := Lib.hid (Below.step C.out hb)
    clear hb
    go_wp2_with fail
    go_ret
    exact ⟨rfl, C.out⟩
end Go.Proofs.Ytbinpefogecgmab

namespace Go.Proofs.Ytbinpefogecgmab.fnPairsMoved
open Go.ChangeShapes Go.WideShapes Go.ChangeAt Go.RowKit
set_option linter.unusedVariables false
set_option linter.unusedSimpArgs false

theorem own : ownKnob Try.prog.godebug = none := by kernel_rfl
theorem laidOut : laidOutB Try.prog = true := by kernel_rfl

set_option maxRecDepth 100000 in
theorem lifted (os : Os) (started : os.Started) (H : Type) (enc : TypeId × Value → H) :
    ReturnsInHanded {} Try.checked os 3 .any (Rows.fnPairsMovedSpec.pre6 enc Try.prog Try.f3 Rows.fnPairsMovedRow.domain false) (Rows.fnPairsMovedSpec.post enc Try.prog Try.f3 false true false false) := by
  refine returnsInHanded_of_change (C := Try.checked) own started (by kernel_rfl) Try.func3
    (ChangeSpec.witness6 (enc := enc) (C := Try.checked) false ⟨#[], #[.slice none 0 0, .slice none 0 0], []⟩ 8 (by kernel_rfl) (by kernel_rfl) (by kernel_rfl) (by kernel_rfl)) ?_
  intro W base args ds gs before hval0 hW hcnd _
  have hval : ∀ (j : Nat) t v, Try.f3.params[j]? = some t → args[j]? = some v → Value.okWide Try.prog W .any base t v := hval0
  have hW' := hW
  obtain ⟨p, q, hA0, hV, rfl, hfz, hnd⟩ := hW
  have hA : DataW.TrodAll enc Try.prog W 0 (fun _ => true) true Try.f3.params.toList args.toList ds p := hA0
  rw [Try.params3] at hA hval
  obtain ⟨v0, vs0, d0, ds0, p0, q0, hargs, rfl, rfl, h0, r0⟩ := trodAll_cons hA
  obtain ⟨v1, vs1, d1, ds1, p1, q1, rfl, rfl, rfl, h1, r1⟩ := trodAll_cons r0
  obtain ⟨rfl, rfl, rfl⟩ := trodAll_nil r1
  obtain rfl : args = #[v0, v1] := by cases args; simp_all
  obtain ⟨rfl, rfl⟩ := trodVars_none hV
  obtain ⟨a0, len0, cap0, rfl⟩ := okWide_slice Try.underlying22 (hval 0 22 v0 rfl rfl)
  have k0 := h0
  have lt0 : ∀ x ∈ p0, x.block < W.heap.size := by obtain ⟨m, hm⟩ := k0; exact DataW.trod_lt m _ _ _ hm
  obtain ⟨z0, w0⟩ : ∃ zs, RdY W (.slice a0 len0 cap0) zs := by
    obtain ⟨fuel, hf⟩ := h0
    rcases open_ints Try.underlying22 Try.underlying5 (by kernel_rfl) hf with ⟨hcs, _⟩ | ⟨x, l, c, zs, hcs, _, hl, hm, hz, _, hcell, hwz⟩
    · simp [Value.cells] at hcs
      obtain ⟨rfl, rfl, rfl⟩ := hcs
      exact ⟨[], rdY_nil W⟩
    · simp [Value.cells] at hcs
      obtain ⟨rfl, rfl, rfl⟩ := hcs
      exact ⟨zs.take _, rdY_row W x _ _ zs hl hm (by simpa using hz) hcell hwz⟩
  obtain ⟨a1, len1, cap1, rfl⟩ := okWide_slice Try.underlying22 (hval 1 22 v1 rfl rfl)
  have k1 := h1
  have lt1 : ∀ x ∈ p1, x.block < W.heap.size := by obtain ⟨m, hm⟩ := k1; exact DataW.trod_lt m _ _ _ hm
  obtain ⟨z1, w1⟩ : ∃ zs, RdY W (.slice a1 len1 cap1) zs := by
    obtain ⟨fuel, hf⟩ := h1
    rcases open_ints Try.underlying22 Try.underlying5 (by kernel_rfl) hf with ⟨hcs, _⟩ | ⟨x, l, c, zs, hcs, _, hl, hm, hz, _, hcell, hwz⟩
    · simp [Value.cells] at hcs
      obtain ⟨rfl, rfl, rfl⟩ := hcs
      exact ⟨[], rdY_nil W⟩
    · simp [Value.cells] at hcs
      obtain ⟨rfl, rfl, rfl⟩ := hcs
      exact ⟨zs.take _, rdY_row W x _ _ zs hl hm (by simpa using hz) hcell hwz⟩
  clear hA0 hval0
  refine (walk_PairsMoved a0 len0 cap0 z0 a1 len1 cap1 z1 W w0 w1).mono fun e W' ⟨he, bel⟩ => ?_
  subst he
  exact ⟨_, rfl, _, _, _, [], _, [], hW', trodAll_mk1 (shut_bool Try.underlying4 _), (trodAll_cons_mk (Below.trod laidOut (by kernel_rfl) (of_decide_eq_true (by kernel_rfl)) k0 bel lt0) (trodAll_cons_mk (Below.trod laidOut (by kernel_rfl) (of_decide_eq_true (by kernel_rfl)) k1 bel lt1) trodAll_mk0)), rfl, bel.frame _, fun h => by cases h⟩

theorem over : Rows.fnPairsMovedRow.holds Try.pinned (OpenSpec.ofChange Rows.fnPairsMovedSpec) :=
  OpenClaim.holds_of_wide 3 Try.f3 rfl rfl rfl rfl rfl rfl rfl ⟨rfl, rfl, rfl, rfl, rfl⟩ rfl rfl rfl rfl rfl (by kernel_rfl) Try.func3 (by kernel_rfl)
    (of_decide_eq_true (by kernel_rfl)) (by unfold Func.isWrapper; first | (rw [if_pos (by decide +kernel)]; kernel_rfl) | (rw [if_neg (by decide +kernel)]; exact ⟨rfl, rfl⟩))
    (fun os started H enc _ => lifted os started H enc)

theorem proved : Rows.FnPairsMovedSaid := over
#print axioms proved
end Go.Proofs.Ytbinpefogecgmab.fnPairsMoved
