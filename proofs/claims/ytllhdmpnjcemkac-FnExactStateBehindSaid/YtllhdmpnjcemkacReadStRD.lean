/- The program's readState: the region that decides, case D. -/
/- The program's readState: the region that decides, case E. -/
import Derived.Test.YtllhdmpnjcemkacReadState
namespace Go.Proofs.Ytllhdmpnjcemkac
open Go.RowKit Go.Maps
set_option linter.unusedSimpArgs false
set_option linter.unusedVariables false
set_option maxHeartbeats 8000000 in
set_option maxRecDepth 100000 in
theorem readState_runD (u1 u2 : Value) (lu ld : List Int) (c : Int) (w : World) (h1 : Rd w u1 lu) (h2 : Rd w u2 ld) (hu : lu.length ≤ 6) (hd : ld.length ≤ 6) (hc0 : 0 ≤ c) (hc6 : c ≤ 6) (wu : Wf lu) (wd : Wf ld) (o1 o2 : Bool) (ho1 : o1 = true) (ho2 : o2 = true)
    (x1 x3 : Bool) (hx1 : (sixL (renU lu) == sixL lu) = x1) (hx3 : (sixL (renD lu ld) == sixL ld) = x3) (hcs : x1 = false) :
    Calls Try.prog 60 #[.agg #[u1, u2, .int .i64 c]] w (FrOut w (if stateB lu ld c then lu else []) (if stateB lu ld c then ld else []) (if stateB lu ld c then c else 0) (stateB lu ld c)) := by
  have hr1 := fun w h => readEnds_yes u1 lu w h hu
  have hr2 := fun w h => readEnds_yes u2 ld w h hd
  rw [← ho1] at hr1
  rw [← ho2] at hr2
  have hrn := fun w => renumbered_any lu ld c w hu hd wu wd
  have hcr := fun w => frCrosses_any lu ld c w hu hd
  have hlit := frC_lit c hu hd
  have hul := renU_length lu
  have hdl := renD_length lu ld
  have hrl : (renU lu).length ≤ 6 := by rw [hul]; exact hu
  have hrd : (renD lu ld).length ≤ 6 := by rw [hdl]; exact hd
  have hlit2 := frC_lit c hrl hrd
  have hst : stateB lu ld c = ((x1 && x3) && (twiceB (roundL lu ld) && decide ((canc [] (roundL lu ld)).length = 0))) := by
    have h1 : sameF (renU lu) (renD lu ld) c lu ld c = (x1 && x3) := by
      unfold sameF
      rw [hx1, hx3, hul, hdl]; simp
    rw [← h1, sameF_iff hrl hrd]
    unfold stateB
    rw [decide_eq_true hu, decide_eq_true hd, inB_yes hc0 hc6]
    by_cases h : renU lu = lu ∧ renD lu ld = ld
    · simp [h, Bool.and_assoc]
    · have h' : ¬ (renU lu = lu ∧ renD lu ld = ld ∧ c = c) := fun h2 => h ⟨h2.1, h2.2.1⟩
      rw [decide_eq_false h, decide_eq_false h']; simp
  have hpd : (x1 && x3) = true → ∀ w, Calls Try.prog 88 #[.agg (frC lu ld c)] w fun e w' => e = .returned (.bool (twiceB (roundL lu ld))) ∧ Below w.heap.size w w' := fun hb w => by
    rw [Bool.and_eq_true, ← hx1, ← hx3, beq_iff_eq, beq_iff_eq] at hb
    exact frPaired_any lu ld c w hu hd (part12_of hu hd (sixL_inj hrl hul hb.1) (sixL_inj hrd hdl hb.2))
  have hsf : sameF (renU lu) (renD lu ld) c lu ld c = (x1 && x3) := by
    unfold sameF
    rw [hx1, hx3, hul, hdl]; simp
  have hG : ∀ (w : World) (x y : Operand) (xs ys : Array Value), (eqGuard .neq 77 x y (.agg xs) (.agg ys)).run Try.prog w = .ok () w := run_neqG
  have hsz : ∀ w, (sizeOf 3).run Try.prog w = .ok 1 w := fun w => by go_simp
  have hA1 : ∀ w, (Op.equalIn 9998 73 (.agg #[endV (renU lu) 0, endV (renU lu) 1, endV (renU lu) 2, endV (renU lu) 3, endV (renU lu) 4, endV (renU lu) 5]) (.agg #[endV lu 0, endV lu 1, endV lu 2, endV lu 3, endV lu 4, endV lu 5])).run Try.prog w = .ok x1 w := fun w => by
    rw [← hx1]; exact run_equalIn_intsF (P := Try.prog) w 9996 73 3 6 Try.underlying73 Try.underlying3 hsz (sixL (renU lu)) (sixL lu) rfl rfl
  have hA3 : ∀ w, (Op.equalIn 9998 73 (.agg #[endV (renD lu ld) 0, endV (renD lu ld) 1, endV (renD lu ld) 2, endV (renD lu ld) 3, endV (renD lu ld) 4, endV (renD lu ld) 5]) (.agg #[endV ld 0, endV ld 1, endV ld 2, endV ld 3, endV ld 4, endV ld 5])).run Try.prog w = .ok x3 w := fun w => by
    rw [← hx3]; exact run_equalIn_intsF (P := Try.prog) w 9996 73 3 6 Try.underlying73 Try.underlying3 hsz (sixL (renD lu ld)) (sixL ld) rfl rfl
  have hB1 : ∀ w, (Op.equalIn 9998 3 (endV (renU lu) 6) (endV lu 6)).run Try.prog w = .ok true w := fun w => by
    have := run_equalIn_int (P := Try.prog) w 9997 3 .i64 .i64 ((renU lu).length : Int) (lu.length : Int) Try.underlying3
    rw [hul, beq_self_eq_true] at this
    have e1 : endV (renU lu) 6 = .int .i64 (lu.length : Int) := by rw [← hul]; rfl
    rw [e1]
    exact this
  have hB3 : ∀ w, (Op.equalIn 9998 3 (endV (renD lu ld) 6) (endV ld 6)).run Try.prog w = .ok true w := fun w => by
    have := run_equalIn_int (P := Try.prog) w 9997 3 .i64 .i64 ((renD lu ld).length : Int) (ld.length : Int) Try.underlying3
    rw [hdl, beq_self_eq_true] at this
    have e1 : endV (renD lu ld) 6 = .int .i64 (ld.length : Int) := by rw [← hdl]; rfl
    rw [e1]
    exact this
  clear hsz
  have B0 : Below w.heap.size w (w.alloc (.cells #[u1, u2, .int .i64 c] 27)) := Below.alloc1 w _
  have B1 := Below.step B0 (Below.alloc1 _ (.cells #[.int .i64 0, .int .i64 0, .int .i64 0, .int .i64 0, .int .i64 0, .int .i64 0, .int .i64 0, .int .i64 0, .int .i64 0, .int .i64 0, .int .i64 0, .int .i64 0, .int .i64 0, .int .i64 0, .int .i64 0] 77))
  have hA : StIn ((w.alloc (.cells #[u1, u2, .int .i64 c] 27)).alloc (.cells #[.int .i64 0, .int .i64 0, .int .i64 0, .int .i64 0, .int .i64 0, .int .i64 0, .int .i64 0, .int .i64 0, .int .i64 0, .int .i64 0, .int .i64 0, .int .i64 0, .int .i64 0, .int .i64 0, .int .i64 0] 77)) w.heap.size u1 u2 c := StIn.below (heap_alloc_new w _) (Below.alloc1 _ _)
  have hZ := fr_zero (w.alloc (.cells #[u1, u2, .int .i64 c] 27))
  rw [World.size_alloc] at hZ
  have H1 := Lib.hid (h1.below B1); have H2 := Lib.hid (h2.below B1)
  have k0 := hA.c0; have k1 := hA.c1; have k2 := hA.c2
  have HA := Lib.hid hA; have HZ := Lib.hid hZ; have HB := Lib.hid B1; have HR1 := Lib.hid hr1; have HR2 := Lib.hid hr2; have L1 := Lib.hid hu; have L2 := Lib.hid hd
  have HRN := Lib.hid hrn; have HCR := Lib.hid hcr; have HLIT := Lib.hid hlit; have HLIT2 := Lib.hid hlit2
  have HST := Lib.hid hst; have HPD := Lib.hid hpd
  clear hlit2 hul hdl hx1 hx3
  generalize renU lu = ru at *
  generalize renD lu ld = rd at *
  obtain ⟨a1, c1, rfl, _⟩ := h1
  obtain ⟨a2, c2, rfl, _⟩ := h2
  clear hA hZ B0 B1 hr1 hr2 hu hd hrn hcr hlit hrl hrd hst hpd wu wd
  generalize hSS : stateB lu ld c = SS at *
  clear hSS
  subst ho1
  subst ho2
  have hxf : (x1 && x3) = false := by rw [hcs]; rfl
  have HSF : Hid (SS = false) := by show SS = false; rw [HST.out, hxf]; rfl
  rw [HSF.out]
  simp only [Bool.false_eq_true, if_false]
  clear HPD hxf
  subst hcs
  all_goals
      go_enter Try.func60, Try.ntmps60
      go_wp2_with fail
      refine (HR1.out _ H1.out).mono ?_
      rintro e w1 ⟨rfl, hb1⟩
      have m1 := (HA.out.below hb1).c1
      have m2 := (HA.out.below hb1).c2
      have HZ1 := Lib.hid (HZ.out.below hb1); have HA1 := Lib.hid (HA.out.below hb1); have HB1 := Lib.hid (Below.step HB.out hb1); have H21 := Lib.hid (H2.out.below hb1)
      clear hb1
      go_wp2_with ((with_reducible refine wp_storeNewEnd rfl (.tmp 4) (.tmp 13) rfl _ lu L1.out rfl rfl ?_); intro w2 hs2 hb2; have m3 := (HA1.out.below hb2).c1; have m4 := (HA1.out.below hb2).c2; have HS2 := Lib.hid hs2; have HZ2 := Lib.hid (HZ1.out.below hb2); have HA2 := Lib.hid (HA1.out.below hb2); have HB2 := Lib.hid (Below.step HB1.out hb2); have H22 := Lib.hid (H21.out.below hb2); clear hs2 hb2)
      refine (HR2.out _ H22.out).mono ?_
      rintro e w3 ⟨rfl, hb3⟩
      have HS3 := Lib.hid (HS2.out.below hb3); have HZ3 := Lib.hid (HZ2.out.below hb3); have HA3 := Lib.hid (HA2.out.below hb3); have HB3 := Lib.hid (Below.step HB2.out hb3)
      have m5 := (HA2.out.below hb3).c2
      clear hb3
      go_wp2_with (first
        | ((with_reducible refine wp_storeNewEnd rfl (.tmp 6) (.tmp 19) rfl _ ld L2.out rfl rfl ?_); intro w4 hs4 hb4; have HS4 := Lib.hid hs4; have HS34 := Lib.hid (HS3.out.below hb4); have HZ4 := Lib.hid (HZ3.out.below hb4); have HA4 := Lib.hid (HA3.out.below hb4); have HB4 := Lib.hid (Below.step HB3.out hb4); have m6 := HA4.out.c2; clear hs4 hb4)
        | (with_reducible refine wp_loadEndLit rfl (.tmp 4) rfl _ lu L1.out rfl HS34.out ?_)
        | (with_reducible refine wp_loadEndLit rfl (.tmp 6) rfl _ ld L2.out rfl HS4.out ?_)
        | ((with_reducible refine wp_storeNewFr rfl (.tmp 8) (.tmp 25) rfl _ lu ld c L1.out L2.out rfl rfl ?_); intro w5 hs5 hb5; have HF5 := Lib.hid hs5; have HA5 := Lib.hid (HA4.out.below hb5); have m7 := HA5.out.c2; have HZ5 := Lib.hid (HZ4.out.below hb5); have HB5 := Lib.hid (Below.step HB4.out hb5); clear hs5 hb5))
      obtain ⟨q0, q1, q2, q3, q4, q5, q6, q7, q8, q9, q10, q11, q12, q13, q14⟩ := fr_cells L1.out L2.out HF5.out
      go_region_with (go_at_call 80; (try rw [← HLIT.out]); ((with_reducible refine (HRN.out _).mono ?_); rintro e' w' ⟨rfl, hb'⟩; rw [HLIT2.out]; (try rw [HLIT.out]); have hf' : FrIn w' w4.heap.size lu ld c := FrIn.below (show FrIn (World.drew _) _ _ _ _ from HF5.out) hb'; have hB' : Below w5.heap.size w5 w' := Below.step (Below.drew (Below.refl _ _)) hb'; obtain ⟨r0, r1, r2, r3, r4, r5, r6, r7, r8, r9, r10, r11, r12, r13, r14⟩ := fr_cells L1.out L2.out hf'))
      all_goals
        go_wp2_with ((refine wp_storeFr0 rfl (.tmp 2) (.tmp 56) rfl (w.heap.size + 1) [] [] 0 (Nat.zero_le _) (Nat.zero_le _) rfl rfl (FrIn.below HZ5.out (by assumption)) ?_); intro w6 hs6 hg6)
        exact bodyPost_ret (results_rstate _ _ (w.heap.size + 1) [] [] 0 false (Nat.zero_le _) (Nat.zero_le _) hs6 rfl rfl) rfl ⟨rfl, (Below.step HB5.out (by assumption)).grown hg6 (Below.step HB5.out (by assumption)).size (by intro k hk; simp at hk; omega)⟩

end Go.Proofs.Ytllhdmpnjcemkac

namespace Go.Proofs.Ytllhdmpnjcemkac
open Go.RowKit Go.Maps
set_option linter.unusedSimpArgs false
set_option linter.unusedVariables false
set_option maxHeartbeats 8000000 in
set_option maxRecDepth 100000 in
theorem readState_runE (u1 u2 : Value) (lu ld : List Int) (c : Int) (w : World) (h1 : Rd w u1 lu) (h2 : Rd w u2 ld) (hu : lu.length ≤ 6) (hd : ld.length ≤ 6) (hc0 : 0 ≤ c) (hc6 : c ≤ 6) (wu : Wf lu) (wd : Wf ld) (o1 o2 : Bool) (ho1 : o1 = true) (ho2 : o2 = true)
    (x1 x3 : Bool) (hx1 : (sixL (renU lu) == sixL lu) = x1) (hx3 : (sixL (renD lu ld) == sixL ld) = x3) (hcs : x1 = true ∧ x3 = false) :
    Calls Try.prog 60 #[.agg #[u1, u2, .int .i64 c]] w (FrOut w (if stateB lu ld c then lu else []) (if stateB lu ld c then ld else []) (if stateB lu ld c then c else 0) (stateB lu ld c)) := by
  have hr1 := fun w h => readEnds_yes u1 lu w h hu
  have hr2 := fun w h => readEnds_yes u2 ld w h hd
  rw [← ho1] at hr1
  rw [← ho2] at hr2
  have hrn := fun w => renumbered_any lu ld c w hu hd wu wd
  have hcr := fun w => frCrosses_any lu ld c w hu hd
  have hlit := frC_lit c hu hd
  have hul := renU_length lu
  have hdl := renD_length lu ld
  have hrl : (renU lu).length ≤ 6 := by rw [hul]; exact hu
  have hrd : (renD lu ld).length ≤ 6 := by rw [hdl]; exact hd
  have hlit2 := frC_lit c hrl hrd
  have hst : stateB lu ld c = ((x1 && x3) && (twiceB (roundL lu ld) && decide ((canc [] (roundL lu ld)).length = 0))) := by
    have h1 : sameF (renU lu) (renD lu ld) c lu ld c = (x1 && x3) := by
      unfold sameF
      rw [hx1, hx3, hul, hdl]; simp
    rw [← h1, sameF_iff hrl hrd]
    unfold stateB
    rw [decide_eq_true hu, decide_eq_true hd, inB_yes hc0 hc6]
    by_cases h : renU lu = lu ∧ renD lu ld = ld
    · simp [h, Bool.and_assoc]
    · have h' : ¬ (renU lu = lu ∧ renD lu ld = ld ∧ c = c) := fun h2 => h ⟨h2.1, h2.2.1⟩
      rw [decide_eq_false h, decide_eq_false h']; simp
  have hpd : (x1 && x3) = true → ∀ w, Calls Try.prog 88 #[.agg (frC lu ld c)] w fun e w' => e = .returned (.bool (twiceB (roundL lu ld))) ∧ Below w.heap.size w w' := fun hb w => by
    rw [Bool.and_eq_true, ← hx1, ← hx3, beq_iff_eq, beq_iff_eq] at hb
    exact frPaired_any lu ld c w hu hd (part12_of hu hd (sixL_inj hrl hul hb.1) (sixL_inj hrd hdl hb.2))
  have hsf : sameF (renU lu) (renD lu ld) c lu ld c = (x1 && x3) := by
    unfold sameF
    rw [hx1, hx3, hul, hdl]; simp
  have hG : ∀ (w : World) (x y : Operand) (xs ys : Array Value), (eqGuard .neq 77 x y (.agg xs) (.agg ys)).run Try.prog w = .ok () w := run_neqG
  have hsz : ∀ w, (sizeOf 3).run Try.prog w = .ok 1 w := fun w => by go_simp
  have hA1 : ∀ w, (Op.equalIn 9998 73 (.agg #[endV (renU lu) 0, endV (renU lu) 1, endV (renU lu) 2, endV (renU lu) 3, endV (renU lu) 4, endV (renU lu) 5]) (.agg #[endV lu 0, endV lu 1, endV lu 2, endV lu 3, endV lu 4, endV lu 5])).run Try.prog w = .ok x1 w := fun w => by
    rw [← hx1]; exact run_equalIn_intsF (P := Try.prog) w 9996 73 3 6 Try.underlying73 Try.underlying3 hsz (sixL (renU lu)) (sixL lu) rfl rfl
  have hA3 : ∀ w, (Op.equalIn 9998 73 (.agg #[endV (renD lu ld) 0, endV (renD lu ld) 1, endV (renD lu ld) 2, endV (renD lu ld) 3, endV (renD lu ld) 4, endV (renD lu ld) 5]) (.agg #[endV ld 0, endV ld 1, endV ld 2, endV ld 3, endV ld 4, endV ld 5])).run Try.prog w = .ok x3 w := fun w => by
    rw [← hx3]; exact run_equalIn_intsF (P := Try.prog) w 9996 73 3 6 Try.underlying73 Try.underlying3 hsz (sixL (renD lu ld)) (sixL ld) rfl rfl
  have hB1 : ∀ w, (Op.equalIn 9998 3 (endV (renU lu) 6) (endV lu 6)).run Try.prog w = .ok true w := fun w => by
    have := run_equalIn_int (P := Try.prog) w 9997 3 .i64 .i64 ((renU lu).length : Int) (lu.length : Int) Try.underlying3
    rw [hul, beq_self_eq_true] at this
    have e1 : endV (renU lu) 6 = .int .i64 (lu.length : Int) := by rw [← hul]; rfl
    rw [e1]
    exact this
  have hB3 : ∀ w, (Op.equalIn 9998 3 (endV (renD lu ld) 6) (endV ld 6)).run Try.prog w = .ok true w := fun w => by
    have := run_equalIn_int (P := Try.prog) w 9997 3 .i64 .i64 ((renD lu ld).length : Int) (ld.length : Int) Try.underlying3
    rw [hdl, beq_self_eq_true] at this
    have e1 : endV (renD lu ld) 6 = .int .i64 (ld.length : Int) := by rw [← hdl]; rfl
    rw [e1]
    exact this
  clear hsz
  have B0 : Below w.heap.size w (w.alloc (.cells #[u1, u2, .int .i64 c] 27)) := Below.alloc1 w _
  have B1 := Below.step B0 (Below.alloc1 _ (.cells #[.int .i64 0, .int .i64 0, .int .i64 0, .int .i64 0, .int .i64 0, .int .i64 0, .int .i64 0, .int .i64 0, .int .i64 0, .int .i64 0, .int .i64 0, .int .i64 0, .int .i64 0, .int .i64 0, .int .i64 0] 77))
  have hA : StIn ((w.alloc (.cells #[u1, u2, .int .i64 c] 27)).alloc (.cells #[.int .i64 0, .int .i64 0, .int .i64 0, .int .i64 0, .int .i64 0, .int .i64 0, .int .i64 0, .int .i64 0, .int .i64 0, .int .i64 0, .int .i64 0, .int .i64 0, .int .i64 0, .int .i64 0, .int .i64 0] 77)) w.heap.size u1 u2 c := StIn.below (heap_alloc_new w _) (Below.alloc1 _ _)
  have hZ := fr_zero (w.alloc (.cells #[u1, u2, .int .i64 c] 27))
  rw [World.size_alloc] at hZ
  have H1 := Lib.hid (h1.below B1); have H2 := Lib.hid (h2.below B1)
  have k0 := hA.c0; have k1 := hA.c1; have k2 := hA.c2
  have HA := Lib.hid hA; have HZ := Lib.hid hZ; have HB := Lib.hid B1; have HR1 := Lib.hid hr1; have HR2 := Lib.hid hr2; have L1 := Lib.hid hu; have L2 := Lib.hid hd
  have HRN := Lib.hid hrn; have HCR := Lib.hid hcr; have HLIT := Lib.hid hlit; have HLIT2 := Lib.hid hlit2
  have HST := Lib.hid hst; have HPD := Lib.hid hpd
  clear hlit2 hul hdl hx1 hx3
  generalize renU lu = ru at *
  generalize renD lu ld = rd at *
  obtain ⟨a1, c1, rfl, _⟩ := h1
  obtain ⟨a2, c2, rfl, _⟩ := h2
  clear hA hZ B0 B1 hr1 hr2 hu hd hrn hcr hlit hrl hrd hst hpd wu wd
  generalize hSS : stateB lu ld c = SS at *
  clear hSS
  subst ho1
  subst ho2
  have hxf : (x1 && x3) = false := by rw [hcs.1, hcs.2]; rfl
  have HSF : Hid (SS = false) := by show SS = false; rw [HST.out, hxf]; rfl
  rw [HSF.out]
  simp only [Bool.false_eq_true, if_false]
  clear HPD hxf
  obtain ⟨rfl, rfl⟩ := hcs
  all_goals
      go_enter Try.func60, Try.ntmps60
      go_wp2_with fail
      refine (HR1.out _ H1.out).mono ?_
      rintro e w1 ⟨rfl, hb1⟩
      have m1 := (HA.out.below hb1).c1
      have m2 := (HA.out.below hb1).c2
      have HZ1 := Lib.hid (HZ.out.below hb1); have HA1 := Lib.hid (HA.out.below hb1); have HB1 := Lib.hid (Below.step HB.out hb1); have H21 := Lib.hid (H2.out.below hb1)
      clear hb1
      go_wp2_with ((with_reducible refine wp_storeNewEnd rfl (.tmp 4) (.tmp 13) rfl _ lu L1.out rfl rfl ?_); intro w2 hs2 hb2; have m3 := (HA1.out.below hb2).c1; have m4 := (HA1.out.below hb2).c2; have HS2 := Lib.hid hs2; have HZ2 := Lib.hid (HZ1.out.below hb2); have HA2 := Lib.hid (HA1.out.below hb2); have HB2 := Lib.hid (Below.step HB1.out hb2); have H22 := Lib.hid (H21.out.below hb2); clear hs2 hb2)
      refine (HR2.out _ H22.out).mono ?_
      rintro e w3 ⟨rfl, hb3⟩
      have HS3 := Lib.hid (HS2.out.below hb3); have HZ3 := Lib.hid (HZ2.out.below hb3); have HA3 := Lib.hid (HA2.out.below hb3); have HB3 := Lib.hid (Below.step HB2.out hb3)
      have m5 := (HA2.out.below hb3).c2
      clear hb3
      go_wp2_with (first
        | ((with_reducible refine wp_storeNewEnd rfl (.tmp 6) (.tmp 19) rfl _ ld L2.out rfl rfl ?_); intro w4 hs4 hb4; have HS4 := Lib.hid hs4; have HS34 := Lib.hid (HS3.out.below hb4); have HZ4 := Lib.hid (HZ3.out.below hb4); have HA4 := Lib.hid (HA3.out.below hb4); have HB4 := Lib.hid (Below.step HB3.out hb4); have m6 := HA4.out.c2; clear hs4 hb4)
        | (with_reducible refine wp_loadEndLit rfl (.tmp 4) rfl _ lu L1.out rfl HS34.out ?_)
        | (with_reducible refine wp_loadEndLit rfl (.tmp 6) rfl _ ld L2.out rfl HS4.out ?_)
        | ((with_reducible refine wp_storeNewFr rfl (.tmp 8) (.tmp 25) rfl _ lu ld c L1.out L2.out rfl rfl ?_); intro w5 hs5 hb5; have HF5 := Lib.hid hs5; have HA5 := Lib.hid (HA4.out.below hb5); have m7 := HA5.out.c2; have HZ5 := Lib.hid (HZ4.out.below hb5); have HB5 := Lib.hid (Below.step HB4.out hb5); clear hs5 hb5))
      obtain ⟨q0, q1, q2, q3, q4, q5, q6, q7, q8, q9, q10, q11, q12, q13, q14⟩ := fr_cells L1.out L2.out HF5.out
      go_region_with (go_at_call 80; (try rw [← HLIT.out]); ((with_reducible refine (HRN.out _).mono ?_); rintro e' w' ⟨rfl, hb'⟩; rw [HLIT2.out]; (try rw [HLIT.out]); have hf' : FrIn w' w4.heap.size lu ld c := FrIn.below (show FrIn (World.drew _) _ _ _ _ from HF5.out) hb'; have hB' : Below w5.heap.size w5 w' := Below.step (Below.drew (Below.refl _ _)) hb'; obtain ⟨r0, r1, r2, r3, r4, r5, r6, r7, r8, r9, r10, r11, r12, r13, r14⟩ := fr_cells L1.out L2.out hf'))
      all_goals
        go_wp2_with ((refine wp_storeFr0 rfl (.tmp 2) (.tmp 56) rfl (w.heap.size + 1) [] [] 0 (Nat.zero_le _) (Nat.zero_le _) rfl rfl (FrIn.below HZ5.out (by assumption)) ?_); intro w6 hs6 hg6)
        exact bodyPost_ret (results_rstate _ _ (w.heap.size + 1) [] [] 0 false (Nat.zero_le _) (Nat.zero_le _) hs6 rfl rfl) rfl ⟨rfl, (Below.step HB5.out (by assumption)).grown hg6 (Below.step HB5.out (by assumption)).size (by intro k hk; simp at hk; omega)⟩

end Go.Proofs.Ytllhdmpnjcemkac
