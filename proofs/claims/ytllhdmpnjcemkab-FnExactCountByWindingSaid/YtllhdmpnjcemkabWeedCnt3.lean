/- CountByWinding: the model. -/
import Derived.Test.YtllhdmpnjcemkabWeedCnt2
import Derived.Deep.LoopGhost
namespace Go.Proofs.Ytllhdmpnjcemkab
open Go.RowKit
set_option linter.unusedSimpArgs false
set_option linter.unusedVariables false

/-- the model in the midst of winding down -/
structure WoundS (w0 : World) (t b : List Int) (T B : List Int) (done : List (List Int × List Int × Nat)) (v1 v2 : Value) (w : World) : Prop where
  weed : weedB T B = true
  box : Box2 28 w w0.heap.size v1 v2
  r1 : Rd w v1 T
  r2 : Rd w v2 B
  all : done ++ windAll T B = windAll t b
  below : Below w0.heap.size w0 w
theorem woundS_next {w0 w w2 : World} {t b T B T' B' : List Int} {n : Nat} {done : List (List Int × List Int × Nat)} {a1 a2 : Option Addr} {n1 n2 c1 c2 : Nat} {x y : Value} {o : Obj} (h : WoundS w0 t b T B done (.slice a1 n1 c1) (.slice a2 n2 c2) w) (hE : windAll T B = (T', B', n) :: windAll T' B') (hw : weedB T' B' = true) (hb : Below w.heap.size w w2) (hr1 : Own w.heap.size w2 x T') (hr2 : Own w.heap.size w2 y B') :
    Hid (WoundS w0 t b T' B' (done ++ [(T', B', n)]) x y (((w2.alloc o).setCell ⟨w0.heap.size, 0, none⟩ x).setCell ⟨w0.heap.size, 1, none⟩ y)) := by
  have hbx := (h.box.below hb).below (Below.alloc1 w2 o)
  exact ⟨hw, (hbx.set0 _).set1 _, rd_set2 hbx x y _ _ (hr1.rd.below (Below.alloc1 w2 o)), rd_set2 hbx x y _ _ (hr2.rd.below (Below.alloc1 w2 o)), by rw [List.append_assoc]; simpa [hE] using h.all,
    ((Below.step (Below.step h.below hb) (Below.alloc1 w2 o)).setCell (p := ⟨w0.heap.size, 0, none⟩) (Nat.le_refl _) x).setCell (p := ⟨w0.heap.size, 1, none⟩) (Nat.le_refl _) y⟩
set_option maxHeartbeats 2000000 in
set_option maxRecDepth 100000 in
theorem spec_CountByWinding (t b : List Int) (w : World) (u1 u2 : Value) (h1 : Rd w u1 t) (h2 : Rd w u2 b) (m1 : t.length ≤ 1048576) (m2 : b.length ≤ 1048576) :
    Calls Try.prog 10 #[.agg #[u1, u2]] w (GivesC w (res1_CountByWinding t b) (res2_CountByWinding t b) (ok_CountByWinding t b)) := by
  unfold res1_CountByWinding res2_CountByWinding ok_CountByWinding
  have B1 : Below w.heap.size w (w.alloc (.cells #[u1, u2] 28)) := Below.alloc1 w _
  have hA := Box2.new 28 w u1 u2
  have k0 := hA.c0; have k1 := hA.c1
  have HB := Lib.hid B1; have HA := Lib.hid hA
  have g1 := h1.below B1; have g2 := h2.below B1
  have hg := swGood_any t b _ u1 u2 g1 g2 m1 m2
  obtain ⟨a1, n1, rfl, _⟩ := h1
  obtain ⟨a2, n2, rfl, _⟩ := h2
  cases e : weedB t b with
  | true =>
    rw [e] at hg
    rw [if_pos rfl, if_pos rfl]
    have HR := Lib.hid hg; have HE := Lib.hid e; have G1 := Lib.hid g1; have G2 := Lib.hid g2
    clear hA B1 e g1 g2 m1 m2 hg
    go_enter Try.func10, Try.ntmps10
    go_wp2_with fail
    refine HR.out.mono ?_
    rintro e w1 ⟨rfl, hb1⟩
    have HW1 := Lib.hid (show WoundS w t b t b [] (.slice a1 t.length n1) (.slice a2 b.length n2) w1 from ⟨HE.out, HA.out.below hb1, G1.out.below hb1, G2.out.below hb1, rfl, Below.step HB.out hb1⟩)
    clear hb1 k0 k1
    have HM := Lib.hid (windM_le2 HE.out)
    generalize t.length = l1 at *
    generalize b.length = l2 at *
    go_wp2
    go_loopg [5, 6] (windM t b) (fun g s5 s6 wr => ∃ (T B : List Int) (done : List (List Int × List Int × Nat)) (v1 v2 : Value), s5 = .int .i64 (cntP done) ∧ s6 = .int .i64 (cntQ done) ∧ (0 ≤ cntP done ∧ cntP done ≤ 20 * done.length ∧ 0 ≤ cntQ done ∧ cntQ done ≤ 20 * done.length) ∧ Hid (WoundS w t b T B done v1 v2 wr) ∧ Hid (windM T B = g) ∧ Hid (done.length + windM T B ≤ windM t b))
    case atStart => exact ⟨t, b, [], _, _, rfl, rfl, by decide, HW1, Lib.hid rfl, by show 0 + _ ≤ _; omega⟩
    case round =>
      obtain ⟨T, B, done, v1, v2, rfl, rfl, hcb, HH, HG, HD⟩ := hrel
      clear HW1
      generalize wr = wa at *
      obtain ⟨b1, e1, q1, _⟩ := id HH.out.r1
      obtain ⟨b2, e2, q2, _⟩ := id HH.out.r2
      subst q1; subst q2
      have k0 := HH.out.box.c0; have k1 := HH.out.box.c1
      by_cases t0 : 0 < T.length
      · have hw := HH.out.weed
        have HS := Lib.hid (step_weed hw t0)
        have HEE := Lib.hid (windAll_step hw t0)
        have HC := Lib.hid (swStep_any (.slice b1 T.length e1) (.slice b2 B.length e2) T B wa HH.out.r1 HH.out.r2 hw t0)
        have hx := parts_rng (weed_facts hw).1 0 t0
        have htk := tk_bound (T := T) (B := B) hx.1 hx.2
        have hdl : done.length ≤ 41 := by have := HD.out; have := HM.out; omega
        have HSP := Lib.hid (cntP_snoc done (stepT T B, stepB T B, stepC T B)); have HSQ := Lib.hid (cntQ_snoc done (stepT T B, stepB T B, stepC T B))
        have HDL : Hid ((done ++ [(stepT T B, stepB T B, stepC T B)]).length = done.length + 1) := by show _ = _; simp
        have hge : (0 : Int) < (T.length : Int) := by omega
        obtain ⟨x0, y0, z0, hv0, _, _, hcell⟩ := HH.out.r1.at t0
        simp only [Value.slice.injEq, true_and] at hv0
        obtain ⟨rfl, rfl⟩ := hv0
        have hc0 := hcell 0 t0
        rw [Nat.add_zero] at hc0
        have hc0' : wa.cell? ⟨x0, y0, none⟩ = some (.int .i64 (hdI T)) := hc0
        clear hc0 hcell
        have hx' : 1 ≤ hdI T ∧ hdI T ≤ 20 := hx
        have HTK1 := Lib.hid (fun he : hdI T = hdI B => tk_yes he hx'.1); have HTK2 := Lib.hid (fun he : ¬ hdI T = hdI B => tk_no (B := B) he)
        clear hx
        generalize hP : cntP done = P at *
        generalize hQ : cntQ done = Q at *
        by_cases he : hdI T = hdI B
        · obtain ⟨e1, e2⟩ := HTK1.out he
          rw [e1] at HSP htk; rw [e2] at HSQ htk
          have hL : letB (stepN T B) = ⟨#[67]⟩ := by rw [stepN_one.2 he]; rfl
          rw [hL] at HC
          clear hL
          clear e1 e2 he HTK1 HTK2 hw t0
          generalize hdI T = x at *
          generalize T.length = m1 at *
          generalize B.length = m2 at *
          go_wp2_with fail
          refine HC.out.mono ?_
          rintro e w2 ⟨v1, v2, rfl, ho1, ho2, ap, hb2⟩
          obtain ⟨x1, y1, z1, rfl⟩ := ho1.form'; obtain ⟨x2, y2, z2, rfl⟩ := ho2.form'
          have HN := woundS_next (o := .cells #[.slice x1 y1 z1, .slice x2 y2 z2] 28) HH.out HEE.out HS.out.1 hb2 ho1 ho2
          have hbx := (HH.out.box.below hb2).below (Below.alloc1 w2 (.cells #[.slice x1 y1 z1, .slice x2 y2 z2] 28))
          have r0 := hbx.c0; have r1 := hbx.c1; have r2 := hbx.free 0; have r3 := hbx.free 1
          have hc2 := ((Below.step hb2 (Below.alloc1 w2 (.cells #[.slice x1 y1 z1, .slice x2 y2 z2] 28))).cell (p := ⟨x0, y0, none⟩) (World.block_lt_of_cell? wa _ hc0')).trans hc0'
          clear hbx ho1 ho2 ap k0 k1 hc0'
          go_wp2_with fail
          go_roundg (windM (stepT T B) (stepB T B))
          case measure => have h1 := HS.out.2; have h2 := HG.out; omega
          case rel => exact ⟨stepT T B, stepB T B, _, _, _, by rw [HSP.out] <;> simp, by rw [HSQ.out] <;> simp, by rw [HSP.out, HSQ.out, HDL.out]; omega, HN, Lib.hid rfl, by show _ ≤ _; have h1 := HS.out.2; have h2 := HD.out; have h3 := HDL.out; omega⟩
        · obtain ⟨e1, e2⟩ := HTK2.out he
          rw [e1] at HSP htk; rw [e2] at HSQ htk
          have hL : letB (stepN T B) = ⟨#[70]⟩ ∨ letB (stepN T B) = ⟨#[66]⟩ ∨ letB (stepN T B) = ⟨#[82]⟩ ∨ letB (stepN T B) = ⟨#[80]⟩ := by
            have hn := stepN_lt T B
            have h1 : stepN T B ≠ 1 := fun h => he (stepN_one.1 h)
            generalize stepN T B = n at *
            have e5 : n = 0 ∨ n = 2 ∨ n = 3 ∨ n = 4 := by omega
            rcases e5 with rfl | rfl | rfl | rfl
            · exact .inl rfl
            · exact .inr (.inl rfl)
            · exact .inr (.inr (.inl rfl))
            · exact .inr (.inr (.inr rfl))
          rcases hL with hL | hL | hL | hL
          · rw [hL] at HC
            clear hL
            clear e1 e2 he HTK1 HTK2 hw t0
            generalize hdI T = x at *
            generalize T.length = m1 at *
            generalize B.length = m2 at *
            go_wp2_with fail
            refine HC.out.mono ?_
            rintro e w2 ⟨v1, v2, rfl, ho1, ho2, ap, hb2⟩
            obtain ⟨x1, y1, z1, rfl⟩ := ho1.form'; obtain ⟨x2, y2, z2, rfl⟩ := ho2.form'
            have HN := woundS_next (o := .cells #[.slice x1 y1 z1, .slice x2 y2 z2] 28) HH.out HEE.out HS.out.1 hb2 ho1 ho2
            have hbx := (HH.out.box.below hb2).below (Below.alloc1 w2 (.cells #[.slice x1 y1 z1, .slice x2 y2 z2] 28))
            have r0 := hbx.c0; have r1 := hbx.c1; have r2 := hbx.free 0; have r3 := hbx.free 1
            have hc2 := ((Below.step hb2 (Below.alloc1 w2 (.cells #[.slice x1 y1 z1, .slice x2 y2 z2] 28))).cell (p := ⟨x0, y0, none⟩) (World.block_lt_of_cell? wa _ hc0')).trans hc0'
            clear hbx ho1 ho2 ap k0 k1 hc0'
            go_wp2_with fail
            go_roundg (windM (stepT T B) (stepB T B))
            case measure => have h1 := HS.out.2; have h2 := HG.out; omega
            case rel => exact ⟨stepT T B, stepB T B, _, _, _, by rw [HSP.out] <;> simp, by rw [HSQ.out] <;> simp, by rw [HSP.out, HSQ.out, HDL.out]; omega, HN, Lib.hid rfl, by show _ ≤ _; have h1 := HS.out.2; have h2 := HD.out; have h3 := HDL.out; omega⟩
          · rw [hL] at HC
            clear hL
            clear e1 e2 he HTK1 HTK2 hw t0
            generalize hdI T = x at *
            generalize T.length = m1 at *
            generalize B.length = m2 at *
            go_wp2_with fail
            refine HC.out.mono ?_
            rintro e w2 ⟨v1, v2, rfl, ho1, ho2, ap, hb2⟩
            obtain ⟨x1, y1, z1, rfl⟩ := ho1.form'; obtain ⟨x2, y2, z2, rfl⟩ := ho2.form'
            have HN := woundS_next (o := .cells #[.slice x1 y1 z1, .slice x2 y2 z2] 28) HH.out HEE.out HS.out.1 hb2 ho1 ho2
            have hbx := (HH.out.box.below hb2).below (Below.alloc1 w2 (.cells #[.slice x1 y1 z1, .slice x2 y2 z2] 28))
            have r0 := hbx.c0; have r1 := hbx.c1; have r2 := hbx.free 0; have r3 := hbx.free 1
            have hc2 := ((Below.step hb2 (Below.alloc1 w2 (.cells #[.slice x1 y1 z1, .slice x2 y2 z2] 28))).cell (p := ⟨x0, y0, none⟩) (World.block_lt_of_cell? wa _ hc0')).trans hc0'
            clear hbx ho1 ho2 ap k0 k1 hc0'
            go_wp2_with fail
            go_roundg (windM (stepT T B) (stepB T B))
            case measure => have h1 := HS.out.2; have h2 := HG.out; omega
            case rel => exact ⟨stepT T B, stepB T B, _, _, _, by rw [HSP.out] <;> simp, by rw [HSQ.out] <;> simp, by rw [HSP.out, HSQ.out, HDL.out]; omega, HN, Lib.hid rfl, by show _ ≤ _; have h1 := HS.out.2; have h2 := HD.out; have h3 := HDL.out; omega⟩
          · rw [hL] at HC
            clear hL
            clear e1 e2 he HTK1 HTK2 hw t0
            generalize hdI T = x at *
            generalize T.length = m1 at *
            generalize B.length = m2 at *
            go_wp2_with fail
            refine HC.out.mono ?_
            rintro e w2 ⟨v1, v2, rfl, ho1, ho2, ap, hb2⟩
            obtain ⟨x1, y1, z1, rfl⟩ := ho1.form'; obtain ⟨x2, y2, z2, rfl⟩ := ho2.form'
            have HN := woundS_next (o := .cells #[.slice x1 y1 z1, .slice x2 y2 z2] 28) HH.out HEE.out HS.out.1 hb2 ho1 ho2
            have hbx := (HH.out.box.below hb2).below (Below.alloc1 w2 (.cells #[.slice x1 y1 z1, .slice x2 y2 z2] 28))
            have r0 := hbx.c0; have r1 := hbx.c1; have r2 := hbx.free 0; have r3 := hbx.free 1
            have hc2 := ((Below.step hb2 (Below.alloc1 w2 (.cells #[.slice x1 y1 z1, .slice x2 y2 z2] 28))).cell (p := ⟨x0, y0, none⟩) (World.block_lt_of_cell? wa _ hc0')).trans hc0'
            clear hbx ho1 ho2 ap k0 k1 hc0'
            go_wp2_with fail
            go_roundg (windM (stepT T B) (stepB T B))
            case measure => have h1 := HS.out.2; have h2 := HG.out; omega
            case rel => exact ⟨stepT T B, stepB T B, _, _, _, by rw [HSP.out] <;> simp, by rw [HSQ.out] <;> simp, by rw [HSP.out, HSQ.out, HDL.out]; omega, HN, Lib.hid rfl, by show _ ≤ _; have h1 := HS.out.2; have h2 := HD.out; have h3 := HDL.out; omega⟩
          · rw [hL] at HC
            clear hL
            clear e1 e2 he HTK1 HTK2 hw t0
            generalize hdI T = x at *
            generalize T.length = m1 at *
            generalize B.length = m2 at *
            go_wp2_with fail
            refine HC.out.mono ?_
            rintro e w2 ⟨v1, v2, rfl, ho1, ho2, ap, hb2⟩
            obtain ⟨x1, y1, z1, rfl⟩ := ho1.form'; obtain ⟨x2, y2, z2, rfl⟩ := ho2.form'
            have HN := woundS_next (o := .cells #[.slice x1 y1 z1, .slice x2 y2 z2] 28) HH.out HEE.out HS.out.1 hb2 ho1 ho2
            have hbx := (HH.out.box.below hb2).below (Below.alloc1 w2 (.cells #[.slice x1 y1 z1, .slice x2 y2 z2] 28))
            have r0 := hbx.c0; have r1 := hbx.c1; have r2 := hbx.free 0; have r3 := hbx.free 1
            have hc2 := ((Below.step hb2 (Below.alloc1 w2 (.cells #[.slice x1 y1 z1, .slice x2 y2 z2] 28))).cell (p := ⟨x0, y0, none⟩) (World.block_lt_of_cell? wa _ hc0')).trans hc0'
            clear hbx ho1 ho2 ap k0 k1 hc0'
            go_wp2_with fail
            go_roundg (windM (stepT T B) (stepB T B))
            case measure => have h1 := HS.out.2; have h2 := HG.out; omega
            case rel => exact ⟨stepT T B, stepB T B, _, _, _, by rw [HSP.out] <;> simp, by rw [HSQ.out] <;> simp, by rw [HSP.out, HSQ.out, HDL.out]; omega, HN, Lib.hid rfl, by show _ ≤ _; have h1 := HS.out.2; have h2 := HD.out; have h3 := HDL.out; omega⟩
      · have hz : T.length = 0 := by omega
        have hAl := HH.out.all
        rw [windAll_nil hz, List.append_nil] at hAl
        have HAL := Lib.hid hAl
        have HX := Lib.hid HH.out.below
        rw [hz] at k0
        clear HH hz t0 hAl
        go_wp2
        refine bodyPost_ret (results_three _ (by kernel_rfl) _ _ _ _ _ rfl rfl rfl) rfl ?_
        exact ⟨by rw [← HAL.out]; rfl, HX.out⟩
  | false =>
    rw [e] at hg
    rw [if_neg (by simp), if_neg (by simp)]
    have HR := Lib.hid hg
    clear hA B1 e g1 g2 m1 m2 hg
    generalize t.length = l1 at *
    generalize b.length = l2 at *
    go_enter Try.func10, Try.ntmps10
    go_wp2_with fail
    refine HR.out.mono ?_
    rintro e w1 ⟨rfl, hb1⟩
    go_wp2
    exact bodyPost_ret (results_three _ (by kernel_rfl) _ _ _ _ _ rfl rfl rfl) rfl ⟨rfl, Below.step HB.out hb1⟩
end Go.Proofs.Ytllhdmpnjcemkab
