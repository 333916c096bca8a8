/- WindStep. -/
import Derived.Test.YtllhdmpnjcemkaaWeedStepI
namespace Go.Proofs.Ytllhdmpnjcemkaa
open Go.RowKit
set_option linter.unusedSimpArgs false
set_option linter.unusedVariables false

theorem flipB_any (u1 u2 : Value) (t b : List Int) (w : World) (h1 : Rd w u1 t) (h2 : Rd w u2 b) : Calls Try.prog 47 #[.agg #[], .agg #[u1, u2]] w (BehindOut w b t) := by
  obtain ⟨a1, c1, rfl, _⟩ := id h1
  obtain ⟨a2, c2, rfl, _⟩ := id h2
  exact (flip_any a1 a2 t.length b.length c1 c2 w).mono fun e w' ⟨he, hb⟩ => ⟨_, _, he, h2.below hb, h1.below hb, hb⟩
/-- what the step that comes next is, and what it does -/
theorem step_kinds {t b : List Int} (h : weedB t b = true) (t0 : 0 < t.length) :
    (stepV t b = .iface 60 (.agg #[]) ∧ ∀ w u1 u2, Rd w u1 t → Rd w u2 b → Calls Try.prog 47 #[.agg #[], .agg #[u1, u2]] w (BehindOut w (stepT t b) (stepB t b))) ∨
    (stepV t b = .iface 86 (.agg #[.int .i64 (hdI t)]) ∧ ∀ w u1 u2, Rd w u1 t → Rd w u2 b → Calls Try.prog 84 #[.agg #[.int .i64 (hdI t)], .agg #[u1, u2]] w (BehindOut w (stepT t b) (stepB t b))) ∨
    (stepV t b = .iface 90 (.agg #[.int .i64 (hdI b)]) ∧ ∀ w u1 u2, Rd w u1 t → Rd w u2 b → Calls Try.prog 89 #[.agg #[.int .i64 (hdI b)], .agg #[u1, u2]] w (BehindOut w (stepT t b) (stepB t b))) ∨
    (stepV t b = .iface 88 (.agg #[.int .i64 (hdI t), .int .i64 (hdI b)]) ∧ ∀ w u1 u2, Rd w u1 t → Rd w u2 b → Calls Try.prog 85 #[.agg #[.int .i64 (hdI t), .int .i64 (hdI b)], .agg #[u1, u2]] w (BehindOut w (stepT t b) (stepB t b))) ∨
    (stepV t b = .iface 91 (.agg #[.int .i64 (hdI t), .int .i64 (hdI b)]) ∧ ∀ w u1 u2, Rd w u1 t → Rd w u2 b → Calls Try.prog 90 #[.agg #[.int .i64 (hdI t), .int .i64 (hdI b)], .agg #[u1, u2]] w (BehindOut w (stepT t b) (stepB t b))) := by
  have hl := weed_lens h
  have b0 : 0 < b.length := by have := weed_empty h; omega
  have hx := parts_rng (weed_facts h).1 0 t0
  have hy := parts_rng (weed_facts h).2.1 0 b0
  have hx' : 1 ≤ hdI t ∧ hdI t ≤ 20 := hx
  have hy' : 1 ≤ hdI b ∧ hdI b ≤ 20 := hy
  unfold stepV stepT stepB
  by_cases c1 : hdI t < hdI b
  · left; rw [if_pos c1, if_pos c1, if_pos c1]; exact ⟨rfl, fun w u1 u2 h1 h2 => flipB_any u1 u2 t b w h1 h2⟩
  right
  rw [if_neg c1, if_neg c1, if_neg c1]
  by_cases c2 : hdI t = hdI b
  · left; rw [if_pos c2, if_pos c2, if_pos c2]; exact ⟨rfl, fun w u1 u2 h1 h2 => elimination_any _ u1 u2 t b w h1 h2 t0 b0⟩
  right
  rw [if_neg c2, if_neg c2, if_neg c2]
  by_cases c3 : hdI t = 2 * hdI b
  · left; rw [if_pos c3, if_pos c3, if_pos c3]; exact ⟨rfl, fun w u1 u2 h1 h2 => blockElimination_any _ u1 u2 t b w h1 h2 t0 b0 hl.1⟩
  right
  rw [if_neg c3, if_neg c3, if_neg c3]
  by_cases c4 : hdI t < 2 * hdI b
  · left; rw [if_pos c4, if_pos c4, if_pos c4]; exact ⟨rfl, fun w u1 u2 h1 h2 => rotation_any _ _ (by omega) (by omega) (by omega) (by omega) u1 u2 t b w h1 h2 t0 b0 hl.1 hl.2⟩
  right
  rw [if_neg c4, if_neg c4, if_neg c4]
  exact ⟨rfl, fun w u1 u2 h1 h2 => contraction_any _ _ (by omega) (by omega) (by omega) (by omega) u1 u2 t b w h1 h2 t0 b0 hl.1⟩
theorem isEmpty_any (a1 a2 : Option Addr) (n1 n2 c1 c2 : Nat) (w : World) : Calls Try.prog 56 #[.agg #[.slice a1 n1 c1, .slice a2 n2 c2]] w fun e w' => e = .returned (.bool ((n1 : Int) == 0)) ∧ Below w.heap.size w w' := by
  go_enter Try.func56, Try.ntmps56
  go_wp2
  go_ret
  exact ⟨rfl, Below.alloc1 _ _⟩

/-! WindStep -/
def GivesX (w : World) (t b : List Int) (s : ByteArray) (ok : Bool) (e : Ending) (w' : World) : Prop := ∃ v1 v2, e = .returned (.tuple #[.agg #[v1, v2], .string s, .bool ok]) ∧ Own w.heap.size w' v1 t ∧ Own w.heap.size w' v2 b ∧ ApartV v1 v2 ∧ Below w.heap.size w w'
def ok_WindStep (t b : List Int) : Bool := weedB t b && decide (0 < t.length)
def res1_WindStep (t b : List Int) : List Int := if ok_WindStep t b then stepT t b else []
def res2_WindStep (t b : List Int) : List Int := if ok_WindStep t b then stepB t b else []
def res3_WindStep (t b : List Int) : ByteArray := if ok_WindStep t b then letB (stepN t b) else ByteArray.empty
theorem len_WindStep (t b : List Int) : (res1_WindStep t b).length ≤ 1000000 ∧ (res2_WindStep t b).length ≤ 1000000 := by
  unfold res1_WindStep res2_WindStep
  split
  · next h =>
    simp only [ok_WindStep, Bool.and_eq_true, decide_eq_true_iff] at h
    have := weed_lens (step_weed h.1 h.2).1; omega
  · simp
theorem results_x (F : Func) (hr : F.results = #[.cell 2 27, .tmp 3, .tmp 4]) (tmps : Array Value) (w : World) (g : Nat) (v1 v2 : Value) (s : ByteArray) (ok : Bool) (hg : Box2 27 w g v1 v2) (h2 : tmps.getD 2 undef = .pointer (some ⟨g, 0, none⟩)) (h3 : tmps.getD 3 undef = .string s) (h4 : tmps.getD 4 undef = .bool ok) :
    (results F tmps).run Try.prog w = .ok (.tuple #[.agg #[v1, v2], .string s, .bool ok]) w := by
  have h2' : tmps[2]?.getD undef = .pointer (some ⟨g, 0, none⟩) := by simpa using h2
  have h3' : tmps[3]?.getD undef = .string s := by simpa using h3
  have h4' : tmps[4]?.getD undef = .bool ok := by simpa using h4
  simp [results, hr, h2', h3', h4', asAddr, run_loadSea w g v1 v2 hg]
set_option maxHeartbeats 4000000 in
set_option maxRecDepth 100000 in
theorem impl_WindStep (t b : List Int) (w : World) (u1 u2 : Value) (h1 : Rd w u1 t) (h2 : Rd w u2 b) (m1 : t.length ≤ 1048576) (m2 : b.length ≤ 1048576) :
    Calls Try.prog 36 #[.agg #[u1, u2]] w (GivesX w (res1_WindStep t b) (res2_WindStep t b) (res3_WindStep t b) (ok_WindStep t b)) := by
  unfold res1_WindStep res2_WindStep res3_WindStep ok_WindStep
  have B1 := below2 w (.cells #[u1, u2] 27) (.cells #[.slice none 0 0, .slice none 0 0] 27)
  have hA := Box2.below (Box2.new 27 w u1 u2) (Below.alloc1 _ (.cells #[.slice none 0 0, .slice none 0 0] 27))
  have hP := Box2.at1 27 w (.cells #[u1, u2] 27) (.slice none 0 0) (.slice none 0 0)
  have k0 := hA.c0; have k1 := hA.c1
  have HP := Lib.hid hP; have HB := Lib.hid B1; have HA := Lib.hid hA
  have g1 := h1.below B1; have g2 := h2.below B1
  obtain ⟨a1, n1, rfl, _⟩ := h1
  obtain ⟨a2, n2, rfl, _⟩ := h2
  cases e : weedB t b with
  | false =>
    rw [Bool.false_and, if_neg (by simp), if_neg (by simp), if_neg (by simp)]
    have HR := Lib.hid (readWeed_no t b _ _ _ g1 g2 e)
    clear hA hP B1 e g1 g2 m1 m2
    generalize t.length = l1 at *
    generalize b.length = l2 at *
    go_enter Try.func36, Try.ntmps36
    go_wp2_with fail
    generalize ((w.alloc (.cells #[.slice a1 l1 n1, .slice a2 l2 n2] 27)).alloc (.cells #[.slice none 0 0, .slice none 0 0] 27)) = W at *
    refine HR.out.mono ?_
    rintro e w1 ⟨rfl, hb1⟩
    have HX1 := Lib.hid (Below.step hb1 (Below.alloc1 w1 (.cells #[.slice none 0 0, .slice none 0 0] 53))); clear hb1
    have q0 := (HP.out.below HX1.out).c0; have q1 := (HP.out.below HX1.out).c1; have q2 := (HP.out.below HX1.out).free 0; have q3 := (HP.out.below HX1.out).free 1
    have HF := sea_none (HP.out.below HX1.out) (Below.step HB.out HX1.out) (Nat.le_succ _)
    go_wp2
    exact bodyPost_ret (results_x _ (by kernel_rfl) _ _ (w.heap.size + 1) _ _ _ false HF.out.1 rfl rfl rfl) rfl ⟨_, _, rfl, Own.nil _ _, Own.nil _ _, ApartV.nil _, HF.out.2⟩
  | true =>
    have hl := weed_lens e
    have HR := Lib.hid (readWeed_yes t b _ _ _ g1 g2 e)
    by_cases t0 : 0 < t.length
    · have hk := step_kinds e t0
      have c2 := fun W v1 v2 hv1 hv2 => weedSeaweed_any (stepT t b) (stepB t b) W v1 v2 hv1 hv2 (by have := weed_lens (step_weed e t0).1; omega) (by have := weed_lens (step_weed e t0).1; omega)
      have c3 := fun W => letterOf_any t b W
      have c4 := fun W x1 x2 => step_any (.slice a1 t.length n1) (.slice a2 b.length n2) t b W x1 x2 e t0
      have HC2 := Lib.hid c2; have HC3 := Lib.hid c3; have HC4 := Lib.hid c4; have G1 := Lib.hid g1; have G2 := Lib.hid g2
      rw [decide_eq_true t0, Bool.and_true, if_pos rfl, if_pos rfl, if_pos rfl]
      have hne : ((t.length : Int) == 0) = false := beq_eq_false_iff_ne.2 (by omega)
      clear hA hP B1 e g1 g2 m1 m2 c2 c3 c4 hl t0
      generalize t.length = l1 at *
      generalize b.length = l2 at *
      generalize stepT t b = T' at *
      generalize stepB t b = B' at *
      generalize letB (stepN t b) = L' at *
      rcases hk with hk | hk | hk | hk | hk
      · obtain ⟨hv, hcb⟩ := hk
        rw [hv] at HC3 HC4
        have HCB := Lib.hid hcb
        clear hv hcb
        go_enter Try.func36, Try.ntmps36
        go_wp2_with fail
        generalize ((w.alloc (.cells #[.slice a1 l1 n1, .slice a2 l2 n2] 27)).alloc (.cells #[.slice none 0 0, .slice none 0 0] 27)) = W at *
        refine HR.out.mono ?_
        rintro e w1 ⟨rfl, hb1⟩
        have HX1 := Lib.hid (Below.step hb1 (Below.alloc1 w1 (.cells #[.slice a1 l1 n1, .slice a2 l2 n2] 53)))
        have HV1 := Lib.hid (Box2.new 53 w1 (.slice a1 l1 n1) (.slice a2 l2 n2)); clear hb1
        go_wp2_with (first
          | (go_at_call 56; ((with_reducible refine (isEmpty_any _ _ _ _ _ _ _).mono ?_); rintro e w2 ⟨rfl, hb2⟩; rw [hne]; have HX2 := Lib.hid (Below.step HX1.out hb2); have HV2 := Lib.hid (HV1.out.below hb2); have s0 := HV2.out.c0; have s1 := HV2.out.c1; clear hb2))
          | (go_at_call 57; ((with_reducible refine (HC4.out _ (G1.out.below HX2.out) (G2.out.below HX2.out)).mono ?_); rintro e w3 ⟨rfl, hb3⟩; have HX3 := Lib.hid (Below.step HX2.out hb3); have HV3 := Lib.hid (HV2.out.below hb3); have s2 := HV3.out.c0; have s3 := HV3.out.c1; clear hb3)))
        show Calls Try.prog 47 #[.agg #[], .agg #[.slice a1 l1 n1, .slice a2 l2 n2]] _ _
        refine (HCB.out _ _ _ (G1.out.below HX3.out) (G2.out.below HX3.out)).mono ?_
        rintro e w4 ⟨v1, v2, rfl, hr1, hr2, hb4⟩
        have HX4 := Lib.hid (Below.step HX3.out hb4); have HR1 := Lib.hid hr1; have HR2 := Lib.hid hr2; clear hr1 hr2 hb4
        obtain ⟨b1, e1, rfl, _⟩ := id HR1.out; obtain ⟨b2, e2, rfl, _⟩ := id HR2.out
        go_wp2_with (first
          | (go_at_call 48; ((with_reducible refine (HC2.out _ _ _ HR1.out HR2.out).mono ?_); rintro e w5 ⟨v1, v2, rfl, ho1, ho2, ap, hb5⟩; obtain ⟨x1, y1, z1, rfl⟩ := ho1.form'; obtain ⟨x2, y2, z2, rfl⟩ := ho2.form'; have HX5 := Lib.hid (Below.step HX4.out hb5); have HF := sea_stored (HP.out.below HX5.out) (Below.step HB.out HX5.out) (Nat.le_succ _) (Nat.lt_of_lt_of_le HP.out.lt HX4.out.size) ho1 ho2 ap (Nat.le_trans HB.out.size HX4.out.size); have q0 := (HP.out.below HX5.out).c0; have q1 := (HP.out.below HX5.out).c1; have q2 := (HP.out.below HX5.out).free 0; have q3 := (HP.out.below HX5.out).free 1; clear ho1 ho2 ap hb5))
          | (go_at_call 58; ((with_reducible refine (HC3.out _).mono ?_); rintro e w6 ⟨rfl, rfl⟩)))
        exact bodyPost_ret (results_x _ (by kernel_rfl) _ _ (w.heap.size + 1) _ _ _ true HF.out.1 rfl rfl rfl) rfl ⟨_, _, rfl, HF.out.2.1, HF.out.2.2.1, HF.out.2.2.2.1, HF.out.2.2.2.2⟩
      · obtain ⟨hv, hcb⟩ := hk
        rw [hv] at HC3 HC4
        have HCB := Lib.hid hcb
        clear hv hcb
        go_enter Try.func36, Try.ntmps36
        go_wp2_with fail
        generalize ((w.alloc (.cells #[.slice a1 l1 n1, .slice a2 l2 n2] 27)).alloc (.cells #[.slice none 0 0, .slice none 0 0] 27)) = W at *
        refine HR.out.mono ?_
        rintro e w1 ⟨rfl, hb1⟩
        have HX1 := Lib.hid (Below.step hb1 (Below.alloc1 w1 (.cells #[.slice a1 l1 n1, .slice a2 l2 n2] 53)))
        have HV1 := Lib.hid (Box2.new 53 w1 (.slice a1 l1 n1) (.slice a2 l2 n2)); clear hb1
        go_wp2_with (first
          | (go_at_call 56; ((with_reducible refine (isEmpty_any _ _ _ _ _ _ _).mono ?_); rintro e w2 ⟨rfl, hb2⟩; rw [hne]; have HX2 := Lib.hid (Below.step HX1.out hb2); have HV2 := Lib.hid (HV1.out.below hb2); have s0 := HV2.out.c0; have s1 := HV2.out.c1; clear hb2))
          | (go_at_call 57; ((with_reducible refine (HC4.out _ (G1.out.below HX2.out) (G2.out.below HX2.out)).mono ?_); rintro e w3 ⟨rfl, hb3⟩; have HX3 := Lib.hid (Below.step HX2.out hb3); have HV3 := Lib.hid (HV2.out.below hb3); have s2 := HV3.out.c0; have s3 := HV3.out.c1; clear hb3)))
        show Calls Try.prog 84 #[.agg #[.int .i64 (hdI t)], .agg #[.slice a1 l1 n1, .slice a2 l2 n2]] _ _
        refine (HCB.out _ _ _ (G1.out.below HX3.out) (G2.out.below HX3.out)).mono ?_
        rintro e w4 ⟨v1, v2, rfl, hr1, hr2, hb4⟩
        have HX4 := Lib.hid (Below.step HX3.out hb4); have HR1 := Lib.hid hr1; have HR2 := Lib.hid hr2; clear hr1 hr2 hb4
        obtain ⟨b1, e1, rfl, _⟩ := id HR1.out; obtain ⟨b2, e2, rfl, _⟩ := id HR2.out
        go_wp2_with (first
          | (go_at_call 48; ((with_reducible refine (HC2.out _ _ _ HR1.out HR2.out).mono ?_); rintro e w5 ⟨v1, v2, rfl, ho1, ho2, ap, hb5⟩; obtain ⟨x1, y1, z1, rfl⟩ := ho1.form'; obtain ⟨x2, y2, z2, rfl⟩ := ho2.form'; have HX5 := Lib.hid (Below.step HX4.out hb5); have HF := sea_stored (HP.out.below HX5.out) (Below.step HB.out HX5.out) (Nat.le_succ _) (Nat.lt_of_lt_of_le HP.out.lt HX4.out.size) ho1 ho2 ap (Nat.le_trans HB.out.size HX4.out.size); have q0 := (HP.out.below HX5.out).c0; have q1 := (HP.out.below HX5.out).c1; have q2 := (HP.out.below HX5.out).free 0; have q3 := (HP.out.below HX5.out).free 1; clear ho1 ho2 ap hb5))
          | (go_at_call 58; ((with_reducible refine (HC3.out _).mono ?_); rintro e w6 ⟨rfl, rfl⟩)))
        exact bodyPost_ret (results_x _ (by kernel_rfl) _ _ (w.heap.size + 1) _ _ _ true HF.out.1 rfl rfl rfl) rfl ⟨_, _, rfl, HF.out.2.1, HF.out.2.2.1, HF.out.2.2.2.1, HF.out.2.2.2.2⟩
      · obtain ⟨hv, hcb⟩ := hk
        rw [hv] at HC3 HC4
        have HCB := Lib.hid hcb
        clear hv hcb
        go_enter Try.func36, Try.ntmps36
        go_wp2_with fail
        generalize ((w.alloc (.cells #[.slice a1 l1 n1, .slice a2 l2 n2] 27)).alloc (.cells #[.slice none 0 0, .slice none 0 0] 27)) = W at *
        refine HR.out.mono ?_
        rintro e w1 ⟨rfl, hb1⟩
        have HX1 := Lib.hid (Below.step hb1 (Below.alloc1 w1 (.cells #[.slice a1 l1 n1, .slice a2 l2 n2] 53)))
        have HV1 := Lib.hid (Box2.new 53 w1 (.slice a1 l1 n1) (.slice a2 l2 n2)); clear hb1
        go_wp2_with (first
          | (go_at_call 56; ((with_reducible refine (isEmpty_any _ _ _ _ _ _ _).mono ?_); rintro e w2 ⟨rfl, hb2⟩; rw [hne]; have HX2 := Lib.hid (Below.step HX1.out hb2); have HV2 := Lib.hid (HV1.out.below hb2); have s0 := HV2.out.c0; have s1 := HV2.out.c1; clear hb2))
          | (go_at_call 57; ((with_reducible refine (HC4.out _ (G1.out.below HX2.out) (G2.out.below HX2.out)).mono ?_); rintro e w3 ⟨rfl, hb3⟩; have HX3 := Lib.hid (Below.step HX2.out hb3); have HV3 := Lib.hid (HV2.out.below hb3); have s2 := HV3.out.c0; have s3 := HV3.out.c1; clear hb3)))
        show Calls Try.prog 89 #[.agg #[.int .i64 (hdI b)], .agg #[.slice a1 l1 n1, .slice a2 l2 n2]] _ _
        refine (HCB.out _ _ _ (G1.out.below HX3.out) (G2.out.below HX3.out)).mono ?_
        rintro e w4 ⟨v1, v2, rfl, hr1, hr2, hb4⟩
        have HX4 := Lib.hid (Below.step HX3.out hb4); have HR1 := Lib.hid hr1; have HR2 := Lib.hid hr2; clear hr1 hr2 hb4
        obtain ⟨b1, e1, rfl, _⟩ := id HR1.out; obtain ⟨b2, e2, rfl, _⟩ := id HR2.out
        go_wp2_with (first
          | (go_at_call 48; ((with_reducible refine (HC2.out _ _ _ HR1.out HR2.out).mono ?_); rintro e w5 ⟨v1, v2, rfl, ho1, ho2, ap, hb5⟩; obtain ⟨x1, y1, z1, rfl⟩ := ho1.form'; obtain ⟨x2, y2, z2, rfl⟩ := ho2.form'; have HX5 := Lib.hid (Below.step HX4.out hb5); have HF := sea_stored (HP.out.below HX5.out) (Below.step HB.out HX5.out) (Nat.le_succ _) (Nat.lt_of_lt_of_le HP.out.lt HX4.out.size) ho1 ho2 ap (Nat.le_trans HB.out.size HX4.out.size); have q0 := (HP.out.below HX5.out).c0; have q1 := (HP.out.below HX5.out).c1; have q2 := (HP.out.below HX5.out).free 0; have q3 := (HP.out.below HX5.out).free 1; clear ho1 ho2 ap hb5))
          | (go_at_call 58; ((with_reducible refine (HC3.out _).mono ?_); rintro e w6 ⟨rfl, rfl⟩)))
        exact bodyPost_ret (results_x _ (by kernel_rfl) _ _ (w.heap.size + 1) _ _ _ true HF.out.1 rfl rfl rfl) rfl ⟨_, _, rfl, HF.out.2.1, HF.out.2.2.1, HF.out.2.2.2.1, HF.out.2.2.2.2⟩
      · obtain ⟨hv, hcb⟩ := hk
        rw [hv] at HC3 HC4
        have HCB := Lib.hid hcb
        clear hv hcb
        go_enter Try.func36, Try.ntmps36
        go_wp2_with fail
        generalize ((w.alloc (.cells #[.slice a1 l1 n1, .slice a2 l2 n2] 27)).alloc (.cells #[.slice none 0 0, .slice none 0 0] 27)) = W at *
        refine HR.out.mono ?_
        rintro e w1 ⟨rfl, hb1⟩
        have HX1 := Lib.hid (Below.step hb1 (Below.alloc1 w1 (.cells #[.slice a1 l1 n1, .slice a2 l2 n2] 53)))
        have HV1 := Lib.hid (Box2.new 53 w1 (.slice a1 l1 n1) (.slice a2 l2 n2)); clear hb1
        go_wp2_with (first
          | (go_at_call 56; ((with_reducible refine (isEmpty_any _ _ _ _ _ _ _).mono ?_); rintro e w2 ⟨rfl, hb2⟩; rw [hne]; have HX2 := Lib.hid (Below.step HX1.out hb2); have HV2 := Lib.hid (HV1.out.below hb2); have s0 := HV2.out.c0; have s1 := HV2.out.c1; clear hb2))
          | (go_at_call 57; ((with_reducible refine (HC4.out _ (G1.out.below HX2.out) (G2.out.below HX2.out)).mono ?_); rintro e w3 ⟨rfl, hb3⟩; have HX3 := Lib.hid (Below.step HX2.out hb3); have HV3 := Lib.hid (HV2.out.below hb3); have s2 := HV3.out.c0; have s3 := HV3.out.c1; clear hb3)))
        show Calls Try.prog 85 #[.agg #[.int .i64 (hdI t), .int .i64 (hdI b)], .agg #[.slice a1 l1 n1, .slice a2 l2 n2]] _ _
        refine (HCB.out _ _ _ (G1.out.below HX3.out) (G2.out.below HX3.out)).mono ?_
        rintro e w4 ⟨v1, v2, rfl, hr1, hr2, hb4⟩
        have HX4 := Lib.hid (Below.step HX3.out hb4); have HR1 := Lib.hid hr1; have HR2 := Lib.hid hr2; clear hr1 hr2 hb4
        obtain ⟨b1, e1, rfl, _⟩ := id HR1.out; obtain ⟨b2, e2, rfl, _⟩ := id HR2.out
        go_wp2_with (first
          | (go_at_call 48; ((with_reducible refine (HC2.out _ _ _ HR1.out HR2.out).mono ?_); rintro e w5 ⟨v1, v2, rfl, ho1, ho2, ap, hb5⟩; obtain ⟨x1, y1, z1, rfl⟩ := ho1.form'; obtain ⟨x2, y2, z2, rfl⟩ := ho2.form'; have HX5 := Lib.hid (Below.step HX4.out hb5); have HF := sea_stored (HP.out.below HX5.out) (Below.step HB.out HX5.out) (Nat.le_succ _) (Nat.lt_of_lt_of_le HP.out.lt HX4.out.size) ho1 ho2 ap (Nat.le_trans HB.out.size HX4.out.size); have q0 := (HP.out.below HX5.out).c0; have q1 := (HP.out.below HX5.out).c1; have q2 := (HP.out.below HX5.out).free 0; have q3 := (HP.out.below HX5.out).free 1; clear ho1 ho2 ap hb5))
          | (go_at_call 58; ((with_reducible refine (HC3.out _).mono ?_); rintro e w6 ⟨rfl, rfl⟩)))
        exact bodyPost_ret (results_x _ (by kernel_rfl) _ _ (w.heap.size + 1) _ _ _ true HF.out.1 rfl rfl rfl) rfl ⟨_, _, rfl, HF.out.2.1, HF.out.2.2.1, HF.out.2.2.2.1, HF.out.2.2.2.2⟩
      · obtain ⟨hv, hcb⟩ := hk
        rw [hv] at HC3 HC4
        have HCB := Lib.hid hcb
        clear hv hcb
        go_enter Try.func36, Try.ntmps36
        go_wp2_with fail
        generalize ((w.alloc (.cells #[.slice a1 l1 n1, .slice a2 l2 n2] 27)).alloc (.cells #[.slice none 0 0, .slice none 0 0] 27)) = W at *
        refine HR.out.mono ?_
        rintro e w1 ⟨rfl, hb1⟩
        have HX1 := Lib.hid (Below.step hb1 (Below.alloc1 w1 (.cells #[.slice a1 l1 n1, .slice a2 l2 n2] 53)))
        have HV1 := Lib.hid (Box2.new 53 w1 (.slice a1 l1 n1) (.slice a2 l2 n2)); clear hb1
        go_wp2_with (first
          | (go_at_call 56; ((with_reducible refine (isEmpty_any _ _ _ _ _ _ _).mono ?_); rintro e w2 ⟨rfl, hb2⟩; rw [hne]; have HX2 := Lib.hid (Below.step HX1.out hb2); have HV2 := Lib.hid (HV1.out.below hb2); have s0 := HV2.out.c0; have s1 := HV2.out.c1; clear hb2))
          | (go_at_call 57; ((with_reducible refine (HC4.out _ (G1.out.below HX2.out) (G2.out.below HX2.out)).mono ?_); rintro e w3 ⟨rfl, hb3⟩; have HX3 := Lib.hid (Below.step HX2.out hb3); have HV3 := Lib.hid (HV2.out.below hb3); have s2 := HV3.out.c0; have s3 := HV3.out.c1; clear hb3)))
        show Calls Try.prog 90 #[.agg #[.int .i64 (hdI t), .int .i64 (hdI b)], .agg #[.slice a1 l1 n1, .slice a2 l2 n2]] _ _
        refine (HCB.out _ _ _ (G1.out.below HX3.out) (G2.out.below HX3.out)).mono ?_
        rintro e w4 ⟨v1, v2, rfl, hr1, hr2, hb4⟩
        have HX4 := Lib.hid (Below.step HX3.out hb4); have HR1 := Lib.hid hr1; have HR2 := Lib.hid hr2; clear hr1 hr2 hb4
        obtain ⟨b1, e1, rfl, _⟩ := id HR1.out; obtain ⟨b2, e2, rfl, _⟩ := id HR2.out
        go_wp2_with (first
          | (go_at_call 48; ((with_reducible refine (HC2.out _ _ _ HR1.out HR2.out).mono ?_); rintro e w5 ⟨v1, v2, rfl, ho1, ho2, ap, hb5⟩; obtain ⟨x1, y1, z1, rfl⟩ := ho1.form'; obtain ⟨x2, y2, z2, rfl⟩ := ho2.form'; have HX5 := Lib.hid (Below.step HX4.out hb5); have HF := sea_stored (HP.out.below HX5.out) (Below.step HB.out HX5.out) (Nat.le_succ _) (Nat.lt_of_lt_of_le HP.out.lt HX4.out.size) ho1 ho2 ap (Nat.le_trans HB.out.size HX4.out.size); have q0 := (HP.out.below HX5.out).c0; have q1 := (HP.out.below HX5.out).c1; have q2 := (HP.out.below HX5.out).free 0; have q3 := (HP.out.below HX5.out).free 1; clear ho1 ho2 ap hb5))
          | (go_at_call 58; ((with_reducible refine (HC3.out _).mono ?_); rintro e w6 ⟨rfl, rfl⟩)))
        exact bodyPost_ret (results_x _ (by kernel_rfl) _ _ (w.heap.size + 1) _ _ _ true HF.out.1 rfl rfl rfl) rfl ⟨_, _, rfl, HF.out.2.1, HF.out.2.2.1, HF.out.2.2.2.1, HF.out.2.2.2.2⟩
    · have hz : t.length = 0 := by omega
      rw [decide_eq_false t0, Bool.and_false, if_neg (by simp), if_neg (by simp), if_neg (by simp)]
      clear hA hP B1 e g1 g2 m1 m2 hl t0
      rw [hz] at HR HA HB HP k0 k1 ⊢
      generalize b.length = l2 at *
      go_enter Try.func36, Try.ntmps36
      go_wp2_with fail
      generalize ((w.alloc (.cells #[.slice a1 0 n1, .slice a2 l2 n2] 27)).alloc (.cells #[.slice none 0 0, .slice none 0 0] 27)) = W at *
      refine HR.out.mono ?_
      rintro e w1 ⟨rfl, hb1⟩
      have HX1 := Lib.hid (Below.step hb1 (Below.alloc1 w1 (.cells #[.slice a1 0 n1, .slice a2 l2 n2] 53))); clear hb1
      go_wp2_with (go_at_call 56; ((with_reducible refine (isEmpty_any _ _ _ _ _ _ _).mono ?_); rintro e w2 ⟨rfl, hb2⟩; have HX2 := Lib.hid (Below.step HX1.out hb2); have q0 := (HP.out.below HX2.out).c0; have q1 := (HP.out.below HX2.out).c1; have q2 := (HP.out.below HX2.out).free 0; have q3 := (HP.out.below HX2.out).free 1; clear hb2))
      have HF := sea_none (HP.out.below HX2.out) (Below.step HB.out HX2.out) (Nat.le_succ _)
      exact bodyPost_ret (results_x _ (by kernel_rfl) _ _ (w.heap.size + 1) _ _ _ false HF.out.1 rfl rfl rfl) rfl ⟨_, _, rfl, Own.nil _ _, Own.nil _ _, ApartV.nil _, HF.out.2⟩
set_option maxHeartbeats 4000000 in
set_option maxRecDepth 100000 in
theorem spec_WindStep (t b : List Int) (w : World) (u1 u2 : Value) (h1 : Rd w u1 t) (h2 : Rd w u2 b) (m1 : t.length ≤ 1048576) (m2 : b.length ≤ 1048576) :
    Calls Try.prog 35 #[.agg #[u1, u2]] w (GivesX w (res1_WindStep t b) (res2_WindStep t b) (res3_WindStep t b) (ok_WindStep t b)) := by
  unfold res1_WindStep res2_WindStep res3_WindStep ok_WindStep
  have B1 := below2 w (.cells #[u1, u2] 27) (.cells #[.slice none 0 0, .slice none 0 0] 27)
  have hA := Box2.below (Box2.new 27 w u1 u2) (Below.alloc1 _ (.cells #[.slice none 0 0, .slice none 0 0] 27))
  have hP := Box2.at1 27 w (.cells #[u1, u2] 27) (.slice none 0 0) (.slice none 0 0)
  have k0 := hA.c0; have k1 := hA.c1
  have HP := Lib.hid hP; have HB := Lib.hid B1; have HA := Lib.hid hA
  have g1 := h1.below B1; have g2 := h2.below B1
  have hg := swGood_any t b _ u1 u2 g1 g2 m1 m2
  obtain ⟨a1, n1, rfl, _⟩ := h1
  obtain ⟨a2, n2, rfl, _⟩ := h2
  cases e : weedB t b with
  | false =>
    rw [e] at hg
    rw [Bool.false_and, if_neg (by simp), if_neg (by simp), if_neg (by simp)]
    have HR := Lib.hid hg
    clear hA hP B1 e g1 g2 m1 m2 hg
    generalize t.length = l1 at *
    generalize b.length = l2 at *
    go_enter Try.func35, Try.ntmps35
    go_wp2_with fail
    generalize ((w.alloc (.cells #[.slice a1 l1 n1, .slice a2 l2 n2] 27)).alloc (.cells #[.slice none 0 0, .slice none 0 0] 27)) = W at *
    refine HR.out.mono ?_
    rintro e w1 ⟨rfl, hb1⟩
    have HX1 := Lib.hid hb1; clear hb1
    have q0 := (HP.out.below HX1.out).c0; have q1 := (HP.out.below HX1.out).c1; have q2 := (HP.out.below HX1.out).free 0; have q3 := (HP.out.below HX1.out).free 1
    have HF := sea_none (HP.out.below HX1.out) (Below.step HB.out HX1.out) (Nat.le_succ _)
    go_wp2
    exact bodyPost_ret (results_x _ (by kernel_rfl) _ _ (w.heap.size + 1) _ _ _ false HF.out.1 rfl rfl rfl) rfl ⟨_, _, rfl, Own.nil _ _, Own.nil _ _, ApartV.nil _, HF.out.2⟩
  | true =>
    rw [e] at hg
    have HR := Lib.hid hg
    have hl := weed_lens e
    by_cases t0 : 0 < t.length
    · have c2 := fun W x1 x2 => swStep_any (.slice a1 t.length n1) (.slice a2 b.length n2) t b W x1 x2 e t0
      have HC2 := Lib.hid c2; have G1 := Lib.hid g1; have G2 := Lib.hid g2
      rw [decide_eq_true t0, Bool.and_true, if_pos rfl, if_pos rfl, if_pos rfl]
      have hne : ((t.length : Int) == 0) = false := beq_eq_false_iff_ne.2 (by omega)
      clear hA hP B1 e g1 g2 m1 m2 c2 hl hg t0
      generalize t.length = l1 at *
      generalize b.length = l2 at *
      generalize stepT t b = T' at *
      generalize stepB t b = B' at *
      generalize letB (stepN t b) = L' at *
      go_enter Try.func35, Try.ntmps35
      go_wp2_with fail
      generalize ((w.alloc (.cells #[.slice a1 l1 n1, .slice a2 l2 n2] 27)).alloc (.cells #[.slice none 0 0, .slice none 0 0] 27)) = W at *
      refine HR.out.mono ?_
      rintro e w1 ⟨rfl, hb1⟩
      have HX1 := Lib.hid hb1; have HA1 := Lib.hid (HA.out.below hb1); have s0 := HA1.out.c0; have s1 := HA1.out.c1; clear hb1 k0 k1
      go_wp2_with (go_at_call 55; ((with_reducible refine (HC2.out _ (G1.out.below HX1.out) (G2.out.below HX1.out)).mono ?_); rintro e w2 ⟨v1, v2, rfl, ho1, ho2, ap, hb2⟩; obtain ⟨x1, y1, z1, rfl⟩ := ho1.form'; obtain ⟨x2, y2, z2, rfl⟩ := ho2.form'; have HX2 := Lib.hid (Below.step (Below.step HX1.out hb2) (Below.alloc1 w2 (.cells #[.slice x1 y1 z1, .slice x2 y2 z2] 27))); have HF := sea_stored (HP.out.below HX2.out) (Below.step HB.out HX2.out) (Nat.le_succ _) (Nat.lt_of_lt_of_le HP.out.lt HX1.out.size) (Own.below ho1 (Below.alloc1 w2 (.cells #[.slice x1 y1 z1, .slice x2 y2 z2] 27))) (Own.below ho2 (Below.alloc1 w2 (.cells #[.slice x1 y1 z1, .slice x2 y2 z2] 27))) ap (Nat.le_trans HB.out.size HX1.out.size); have q0 := (HP.out.below HX2.out).c0; have q1 := (HP.out.below HX2.out).c1; have q2 := (HP.out.below HX2.out).free 0; have q3 := (HP.out.below HX2.out).free 1; clear ho1 ho2 ap hb2))
      exact bodyPost_ret (results_x _ (by kernel_rfl) _ _ (w.heap.size + 1) _ _ _ true HF.out.1 rfl rfl rfl) rfl ⟨_, _, rfl, HF.out.2.1, HF.out.2.2.1, HF.out.2.2.2.1, HF.out.2.2.2.2⟩
    · have hz : t.length = 0 := by omega
      rw [decide_eq_false t0, Bool.and_false, if_neg (by simp), if_neg (by simp), if_neg (by simp)]
      clear hA hP B1 e g1 g2 m1 m2 hl t0 hg
      rw [hz] at HR HA HB HP k0 k1 ⊢
      generalize b.length = l2 at *
      go_enter Try.func35, Try.ntmps35
      go_wp2_with fail
      generalize ((w.alloc (.cells #[.slice a1 0 n1, .slice a2 l2 n2] 27)).alloc (.cells #[.slice none 0 0, .slice none 0 0] 27)) = W at *
      refine HR.out.mono ?_
      rintro e w1 ⟨rfl, hb1⟩
      have HX1 := Lib.hid hb1; have HA1 := Lib.hid (HA.out.below hb1); have s0 := HA1.out.c0; have s1 := HA1.out.c1; clear hb1 k0 k1
      have q0 := (HP.out.below HX1.out).c0; have q1 := (HP.out.below HX1.out).c1; have q2 := (HP.out.below HX1.out).free 0; have q3 := (HP.out.below HX1.out).free 1
      have HF := sea_none (HP.out.below HX1.out) (Below.step HB.out HX1.out) (Nat.le_succ _)
      go_wp2
      exact bodyPost_ret (results_x _ (by kernel_rfl) _ _ (w.heap.size + 1) _ _ _ false HF.out.1 rfl rfl rfl) rfl ⟨_, _, rfl, Own.nil _ _, Own.nil _ _, ApartV.nil _, HF.out.2⟩
end Go.Proofs.Ytllhdmpnjcemkaa
