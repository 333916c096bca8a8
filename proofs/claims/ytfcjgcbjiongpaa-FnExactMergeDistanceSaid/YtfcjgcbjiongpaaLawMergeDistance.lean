/-
  FnExactMergeDistance answers true at every input that can be read, and writes into nothing that was there before the call: the program's function answers as the model's does, writes into no argument, and its answer owns its memory.
  Conditions: none but the row's own.
-/
import Derived.Test.YtfcjgcbjiongpaaRows
import Derived.ProofKit
import Derived.OpenShut
import Derived.ShutString
import Derived.ChangeOld
import Derived.Below
import Derived.Lib.SmallJoins
import Derived.Test.YtfcjgcbjiongpaaMeander
import Derived.Deep.RegionHeld3
import Derived.Deep.DeepCutAuto
import Derived.Test.YtfcjgcbjiongpaaExDist
namespace Go.Proofs.Ytfcjgcbjiongpaa
open Go.RowKit
set_option linter.unusedSimpArgs false
set_option linter.unusedVariables false

set_option maxHeartbeats 8000000 in
set_option maxRecDepth 100000 in
theorem core_MergeDistance (a0 d0 : Option Addr) (n0 c0 p0 q0 : Nat) (t0 b0 : List Int) (r : Int) (ok : Bool) (w : World) (h0 : Rd w (.slice a0 n0 c0) t0) (g0 : Rd w (.slice d0 p0 q0) b0) (hs0 : n0 + p0 ≤ 1048576) (hsp : ∀ (w : World) (u0 v0 : Value), Rd w u0 t0 → Rd w v0 b0 → Calls Try.prog 30 #[.agg #[u0, v0]] w (GivesN w r ok)) (him : ∀ (w : World) (u0 v0 : Value), Rd w u0 t0 → Rd w v0 b0 → Calls Try.prog 32 #[.agg #[u0, v0]] w (GivesN w r ok)) :
    Calls Try.prog 9 #[.agg #[.slice a0 n0 c0, .slice d0 p0 q0]] w (Good w) := by
  have HS := Lib.hid hsp; have HI := Lib.hid him; clear hsp him
  have ln0 : t0.length = n0 := by obtain ⟨_, _, hv, _⟩ := h0; simp at hv; exact hv.2.1.symm
  have lp0 : b0.length = p0 := by obtain ⟨_, _, hv, _⟩ := g0; simp at hv; exact hv.2.1.symm
  have LN0 : Hid (t0.length ≤ 1048576) := by show _ ≤ _; omega
  have LP0 : Hid (b0.length ≤ 1048576) := by show _ ≤ _; omega
  have A0 := Lib.hid h0; have D0 := Lib.hid g0
  have hn0 : n0 ≤ 1048576 := by omega
  have hp0 : p0 ≤ 1048576 := by omega
  clear ln0 lp0 h0 g0
  have Z0 : Hid (w.heap.size ≤ w.heap.size) := Nat.le_refl _
  have hba := Below.alloc1 w (.cells #[.slice a0 n0 c0, .slice d0 p0 q0] 39)
  have C : Hid (Below w.heap.size w (w.alloc (.cells #[.slice a0 n0 c0, .slice d0 p0 q0] 39))) := hba
  have HBP0 := Lib.hid (Box2.new 39 w (.slice a0 n0 c0) (.slice d0 p0 q0))
  clear hba
  have Z1 : Hid (w.heap.size < (w.alloc (.cells #[.slice a0 n0 c0, .slice d0 p0 q0] 39)).heap.size) := Lib.hid HBP0.out.lt
  go_enter Try.func9, Try.ntmps9
  have e0a := HBP0.out.c0; have e0b := HBP0.out.c1
  go_wp2_with fail
  clear e0a e0b
  refine (szMeander_ok a0 d0 n0 p0 c0 q0 1048576 _ (by omega) (by omega) (by omega) (by omega) (by omega)).mono ?_
  rintro e w1 ⟨rfl, hb⟩
  replace HBP0 := Lib.hid (Box2.below HBP0.out hb)
  replace C := Lib.hid (Below.step C.out hb)
  have Z2 := Lib.hid (Below.size hb); clear hb
  have e1a := HBP0.out.c0; have e1b := HBP0.out.c1
  go_wp2_with fail
  clear e1a e1b
  refine (toMeander_ok _ _ t0 b0 _ (A0.out.below C.out) (D0.out.below C.out) LN0.out LP0.out).mono ?_
  rintro e w2 ⟨sa0v1, sa0v2, rfl, sa0o1, sa0o2, sa0ap, hb⟩
  replace HBP0 := Lib.hid (Box2.below HBP0.out hb)
  replace C := Lib.hid (Below.step C.out hb)
  have Z3 := Lib.hid (Below.size hb); clear hb
  obtain ⟨sa01a, sa01n, sa01c, rfl⟩ := sa0o1.form'; obtain ⟨sa02a, sa02n, sa02c, rfl⟩ := sa0o2.form'
  have Isa01 := Lib.hid (Own.inn sa0o1); have Isa02 := Lib.hid (Own.inn sa0o2); have APsa0 := Lib.hid sa0ap
  have Osa01 := Lib.hid sa0o1; have Osa02 := Lib.hid sa0o2; clear sa0o1 sa0o2 sa0ap
  have e2a := HBP0.out.c0; have e2b := HBP0.out.c1
  go_wp2_with fail
  clear e2a e2b
  refine (HS.out _ _ _ Osa01.out.rd Osa02.out.rd).mono ?_
  rintro e w3 ⟨rfl, hb⟩
  replace HBP0 := Lib.hid (Box2.below HBP0.out hb)
  replace Osa01 := Lib.hid (Own.below Osa01.out hb)
  replace Osa02 := Lib.hid (Own.below Osa02.out hb)
  replace C := Lib.hid (Below.step C.out hb)
  have Z4 := Lib.hid (Below.size hb); clear hb
  have e3a := HBP0.out.c0; have e3b := HBP0.out.c1
  go_wp2_with fail
  clear e3a e3b
  refine (toMeander_ok _ _ t0 b0 _ (A0.out.below C.out) (D0.out.below C.out) LN0.out LP0.out).mono ?_
  rintro e w4 ⟨xa0v1, xa0v2, rfl, xa0o1, xa0o2, xa0ap, hb⟩
  replace HBP0 := Lib.hid (Box2.below HBP0.out hb)
  replace Osa01 := Lib.hid (Own.below Osa01.out hb)
  replace Osa02 := Lib.hid (Own.below Osa02.out hb)
  replace C := Lib.hid (Below.step C.out hb)
  have Z5 := Lib.hid (Below.size hb); clear hb
  obtain ⟨xa01a, xa01n, xa01c, rfl⟩ := xa0o1.form'; obtain ⟨xa02a, xa02n, xa02c, rfl⟩ := xa0o2.form'
  have Ixa01 := Lib.hid (Own.inn xa0o1); have Ixa02 := Lib.hid (Own.inn xa0o2); have APxa0 := Lib.hid xa0ap
  have Oxa01 := Lib.hid xa0o1; have Oxa02 := Lib.hid xa0o2; clear xa0o1 xa0o2 xa0ap
  have hba := Below.alloc1 w4 (.cells #[.slice xa01a xa01n xa01c, .slice xa02a xa02n xa02c] 42)
  replace HBP0 := Lib.hid (Box2.below HBP0.out hba)
  replace Osa01 := Lib.hid (Own.below Osa01.out hba)
  replace Osa02 := Lib.hid (Own.below Osa02.out hba)
  replace Oxa01 := Lib.hid (Own.below Oxa01.out hba)
  replace Oxa02 := Lib.hid (Own.below Oxa02.out hba)
  replace C := Lib.hid (Below.step C.out hba)
  have HBxa0 := Lib.hid (Box2.new 42 w4 (.slice xa01a xa01n xa01c) (.slice xa02a xa02n xa02c))
  clear hba
  have Z6 : Hid (w4.heap.size < (w4.alloc (.cells #[.slice xa01a xa01n xa01c, .slice xa02a xa02n xa02c] 42)).heap.size) := Lib.hid HBxa0.out.lt
  have e4a := HBP0.out.c0; have e4b := HBP0.out.c1
  have e5a := HBxa0.out.c0; have e5b := HBxa0.out.c1
  go_wp2_with fail
  clear e4a e4b e5a e5b
  refine (HI.out _ _ _ Oxa01.out.rd Oxa02.out.rd).mono ?_
  rintro e w5 ⟨rfl, hb⟩
  replace HBP0 := Lib.hid (Box2.below HBP0.out hb)
  replace HBxa0 := Lib.hid (Box2.below HBxa0.out hb)
  replace Osa01 := Lib.hid (Own.below Osa01.out hb)
  replace Osa02 := Lib.hid (Own.below Osa02.out hb)
  replace Oxa01 := Lib.hid (Own.below Oxa01.out hb)
  replace Oxa02 := Lib.hid (Own.below Oxa02.out hb)
  replace C := Lib.hid (Below.step C.out hb)
  have Z7 := Lib.hid (Below.size hb); clear hb
  go_wp2_with fail
  go_region_held3 (fun w' => Hid (Below w5.heap.size w5 w') ∧ w'.cell? ⟨w4.heap.size, 0, none⟩ = some (.slice xa01a xa01n xa01c) ∧ w'.cell? ⟨w4.heap.size, 1, none⟩ = some (.slice xa02a xa02n xa02c) ∧ w'.cell? ⟨w.heap.size, 0, none⟩ = some (.slice a0 n0 c0) ∧ w'.cell? ⟨w.heap.size, 1, none⟩ = some (.slice d0 p0 q0))
    (first | assumption | exact held_start HBxa0.out HBP0.out | exact held_keep (by assumption) (by assumption))
    (first
      | (go_at_call 31; ((refine (toMeander_ok _ _ t0 b0 _ ((A0.out.below C.out).below (Below.drew (Below.refl _ _))) ((D0.out.below C.out).below (Below.drew (Below.refl _ _))) LN0.out LP0.out).mono ?_); rintro e' wq ⟨yv1, yv2, rfl, yo1, yo2, yap, hb'⟩; have YB : Hid (Below w5.heap.size w5 wq) := ((Below.refl _ w5).drew).trans hb'; have YO1 := Lib.hid yo1; have YO2 := Lib.hid yo2; obtain ⟨y1a, y1n, y1c, rfl⟩ := yo1.form'; obtain ⟨y2a, y2n, y2c, rfl⟩ := yo2.form'))
      | (go_at_call 33; ((refine (eqMeander_ok _ _ _ _ t0 b0 _ (Own.below Oxa01.out YB.out).rd (Own.below Oxa02.out YB.out).rd YO1.out.rd YO2.out.rd).mono ?_); rintro e' w' ⟨rfl, hb'⟩)))
  have hb : Below w5.heap.size w5 w' := held_out (by assumption)
  generalize w' = w6 at *
  replace HBP0 := Lib.hid (Box2.below HBP0.out hb)
  replace HBxa0 := Lib.hid (Box2.below HBxa0.out hb)
  replace Osa01 := Lib.hid (Own.below Osa01.out hb)
  replace Osa02 := Lib.hid (Own.below Osa02.out hb)
  replace Oxa01 := Lib.hid (Own.below Oxa01.out hb)
  replace Oxa02 := Lib.hid (Own.below Oxa02.out hb)
  replace C := Lib.hid (Below.step C.out hb)
  have Z8 := Lib.hid (Below.size hb); clear hb
  have yclear : True := trivial
  go_wp2
  go_ret
  exact ⟨rfl, C.out⟩

set_option maxHeartbeats 2000000 in
theorem walk_MergeDistance (a0 : Option Addr) (len0 cap0 : Nat) (z0 : List Int) (d0 : Option Addr) (pen0 qap0 : Nat) (y0 : List Int) (w : World) (w0 : RowIn w a0 len0 cap0 z0) (v0 : RowIn w d0 pen0 qap0 y0) :
    Calls Try.prog 9 #[.agg #[.slice a0 len0 cap0, .slice d0 pen0 qap0]] w (Good w) := by
  have Gw0 : len0 ≤ 9223372036854775807 := by rcases w0 with ⟨_, q1, q2, _⟩ | ⟨_, _, q1, q2, _⟩ <;> first | (unfold maxLen at q2; omega) | omega
  have Gv0 : pen0 ≤ 9223372036854775807 := by rcases v0 with ⟨_, q1, q2, _⟩ | ⟨_, _, q1, q2, _⟩ <;> first | (unfold maxLen at q2; omega) | omega
  by_cases hall : len0 + pen0 ≤ 1048576
  · exact core_MergeDistance a0 d0 len0 cap0 pen0 qap0 (z0.take len0) (y0.take pen0) (res_MergeDistance (z0.take len0) (y0.take pen0)) (ok_MergeDistance (z0.take len0) (y0.take pen0)) w (RowIn.rd w0) (RowIn.rd v0) hall (fun w u50 v50 k0 j0 => spec_MergeDistance (z0.take len0) (y0.take pen0) w u50 v50 k0 j0 (by rw [RowIn.len w0]; omega) (by rw [RowIn.len v0]; omega)) (fun w u50 v50 k0 j0 => impl_MergeDistance (z0.take len0) (y0.take pen0) w u50 v50 k0 j0 (by rw [RowIn.len w0]; omega) (by rw [RowIn.len v0]; omega))
  · clear w0 v0
    have k := cells_new w (.slice a0 len0 cap0) (.slice d0 pen0 qap0) 39
    obtain ⟨k0, k1⟩ := k
    go_enter Try.func9, Try.ntmps9
    go_wp2_with fail
    refine (szMeander_no a0 d0 len0 pen0 cap0 qap0 1048576 _ (by omega) (by omega) (by omega) (by omega) (by omega)).mono ?_
    rintro e w1 ⟨rfl, hb⟩
    go_wp2
    go_ret
    exact ⟨rfl, Below.step (Below.alloc1 w _) hb⟩
end Go.Proofs.Ytfcjgcbjiongpaa

namespace Go.Proofs.Ytfcjgcbjiongpaa.fnExactMergeDistance
open Go.ChangeShapes Go.WideShapes Go.ChangeAt Go.RowKit
open Go.ChangeMaps (open_string shut_string)
open Go.Joins (open_agg2 open_agg3)
set_option linter.unusedVariables false
set_option linter.unusedSimpArgs false

theorem own : ownKnob Try.prog.godebug = none := by kernel_rfl
theorem laidOut : laidOutB Try.prog = true := by kernel_rfl

theorem cellsM : Try.prog.cellsOf 39 = 2 := by kernel_rfl

set_option maxRecDepth 100000 in
theorem lifted (os : Os) (started : os.Started) (H : Type) (enc : TypeId × Value → H) :
    ReturnsInHanded {} Try.checked os 9 .any (Rows.fnExactMergeDistanceSpec.pre6 enc Try.prog Try.f9 Rows.fnExactMergeDistanceRow.domain false) (Rows.fnExactMergeDistanceSpec.post enc Try.prog Try.f9 false true false false) := by
  refine returnsInHanded_of_change (C := Try.checked) own started (by kernel_rfl) Try.func9
    (ChangeSpec.witness6 (enc := enc) (C := Try.checked) false ⟨#[], #[.agg #[.slice none 0 0, .slice none 0 0]], []⟩ 8 (by kernel_rfl) (by kernel_rfl) (by kernel_rfl) (by kernel_rfl)) ?_
  intro W base args ds gs before hval0 hW hcnd _
  have hval : ∀ (j : Nat) t v, Try.f9.params[j]? = some t → args[j]? = some v → Value.okWide Try.prog W .any base t v := hval0
  have hW' := hW
  obtain ⟨p, q, hA0, hV, rfl, hfz, hnd⟩ := hW
  have hA : DataW.TrodAll enc Try.prog W 0 (fun _ => true) true Try.f9.params.toList args.toList ds p := hA0
  rw [Try.params9] at hA hval
  obtain ⟨v0, vs0, d0, ds0, p0, q0, hargs, rfl, rfl, h0, r0⟩ := trodAll_cons hA
  obtain ⟨rfl, rfl, rfl⟩ := trodAll_nil r0
  obtain rfl : args = #[v0] := by cases args; simp_all
  obtain ⟨rfl, rfl⟩ := trodVars_none hV
  have k0 := h0
  have lt0 : ∀ x ∈ p0, x.block < W.heap.size := by obtain ⟨m, hm⟩ := k0; exact DataW.trod_lt m _ _ _ hm
  obtain ⟨u0, v0x, y00, y01, fu0, rfl, rfl, rfl, f00, f01⟩ := open_agg2 Try.underlying39 (by kernel_rfl) cellsM (hval 0 39 v0 rfl rfl) h0
  obtain ⟨a0, len0, cap0, z0, rfl, w0⟩ : ∃ a l c zs, u0 = .slice a l c ∧ RowIn W a l c zs := by
    rcases open_ints Try.underlying22 Try.underlying3 (by kernel_rfl) f00 with ⟨hcs, _⟩ | ⟨x, l, c, zs, hcs, _, hl, hm, hz, _, hcell, hwz⟩
    · simp at hcs
      subst hcs
      exact ⟨none, 0, 0, [], rfl, .inl ⟨rfl, rfl, rfl, rfl⟩⟩
    · simp at hcs
      subst hcs
      exact ⟨some x, l, c, zs, rfl, .inr ⟨_, rfl, hl, hm, by simpa using hz, hcell, hwz⟩⟩
  obtain ⟨d0, pen0, qap0, y0, rfl, v0⟩ : ∃ a l c zs, v0x = .slice a l c ∧ RowIn W a l c zs := by
    rcases open_ints Try.underlying22 Try.underlying3 (by kernel_rfl) f01 with ⟨hcs, _⟩ | ⟨x, l, c, zs, hcs, _, hl, hm, hz, _, hcell, hwz⟩
    · simp at hcs
      subst hcs
      exact ⟨none, 0, 0, [], rfl, .inl ⟨rfl, rfl, rfl, rfl⟩⟩
    · simp at hcs
      subst hcs
      exact ⟨some x, l, c, zs, rfl, .inr ⟨_, rfl, hl, hm, by simpa using hz, hcell, hwz⟩⟩
  clear hA0 hval0
  refine (walk_MergeDistance a0 len0 cap0 z0 d0 pen0 qap0 y0 W w0 v0).mono fun e W' ⟨he, bel⟩ => ?_
  subst he
  exact ⟨_, rfl, _, _, _, [], _, [], hW', trodAll_mk1 (shut_bool Try.underlying4 _), (trodAll_cons_mk (Below.trod laidOut (by kernel_rfl) (of_decide_eq_true (by kernel_rfl)) k0 bel lt0) trodAll_mk0), rfl, bel.frame _, fun h => by cases h⟩

theorem over : Rows.fnExactMergeDistanceRow.holds Try.pinned (OpenSpec.ofChange Rows.fnExactMergeDistanceSpec) :=
  OpenClaim.holds_of_wide 9 Try.f9 rfl rfl rfl rfl rfl rfl rfl ⟨rfl, rfl, rfl, rfl, rfl⟩ rfl rfl rfl rfl rfl (by kernel_rfl) Try.func9 (by kernel_rfl)
    (of_decide_eq_true (by kernel_rfl)) (by unfold Func.isWrapper; first | (rw [if_pos (by decide +kernel)]; kernel_rfl) | (rw [if_neg (by decide +kernel)]; exact ⟨rfl, rfl⟩))
    (fun os started H enc _ => lifted os started H enc)

theorem proved : Rows.FnExactMergeDistanceSaid := over
#print axioms proved
end Go.Proofs.Ytfcjgcbjiongpaa.fnExactMergeDistance
