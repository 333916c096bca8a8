/- IsWhole, ShortestClosed, ClosedStretches of the model. -/
import Derived.Test.YtaeeopdiodaiaaaCutAll
import Derived.Test.YtaeeopdiodaiaaaCutSe
namespace Go.Proofs.Ytaeeopdiodaiaaa
open Go.RowKit
set_option linter.unusedSimpArgs false
set_option linter.unusedVariables false

theorem cuts_none {t b : List Int} : (cutsL t b).length = 0 ↔ shortL false t b = none := by
  constructor
  · intro h
    unfold shortL
    rw [List.eq_nil_of_length_eq_zero h]
    rfl
  · intro h
    have hb := short_best false t b
    rw [h] at hb
    cases hc : cutsL t b with
    | nil => rfl
    | cons p r =>
      exfalso
      have hm : p ∈ cutsL t b := by rw [hc]; exact List.mem_cons_self
      have hm2 := List.mem_filter.1 hm
      exact hb p ⟨(mem_strAll t.length p).1 hm2.1, by simpa using hm2.2⟩
theorem whole_len (t b : List Int) : wholeB t b = (decide (0 < t.length) && decide ((cutsL t b).length = 0)) := by
  unfold wholeB
  congr 1
  rw [Bool.eq_iff_iff]
  simp only [decide_eq_true_eq, Option.isNone_iff_eq_none]
  exact cuts_none.symm

set_option maxHeartbeats 1000000 in
theorem siWhole_any (t b : List Int) (hl : t.length = b.length) (h12 : t.length ≤ 12) (w : World) (u1 u2 : Value) (h1 : Rd w u1 t) (h2 : Rd w u2 b) :
    Calls Try.prog 63 #[.agg #[u1, u2]] w (Tells w (wholeB t b)) := by
  have hA := Box2.new 28 w u1 u2
  have B1 : Below w.heap.size w (w.alloc (.cells #[u1, u2] 28)) := Below.alloc1 w _
  have k0 := hA.c0; have k1 := hA.c1
  have HAL := Lib.hid (siAll_any t b hl h12 _ u1 u2 (h1.below B1) (h2.below B1))
  have HB := Lib.hid B1
  obtain ⟨a1, c1, rfl, hc1, hm1, _⟩ := h1
  unfold maxLen at hm1
  have hlen : (cutsL t b).length ≤ 144 := cutsL_len h12
  have HM : Hid (((cutsL t b).map rowOf).length = (cutsL t b).length) := List.length_map _
  rw [whole_len]
  generalize (cutsL t b).map rowOf = M at *
  generalize (cutsL t b).length = m at *
  generalize t.length = n at *
  clear hA B1 h2 hl
  by_cases h0 : 0 < n
  · have hi : (0 : Int) < (n : Int) := by omega
    rw [decide_eq_true h0, Bool.true_and]
    by_cases hm : m = 0
    · subst hm
      go_enter Try.func63, Try.ntmps63
      go_wp2_with fail
      refine HAL.out.mono ?_
      rintro e w1 ⟨v, vs, rfl, hown, hb1⟩
      obtain ⟨a5, c5, rfl, hc5, hm5⟩ := hown.form
      unfold maxLen at hm5
      rw [HM.out] at hc5 ⊢
      clear hown
      go_wp2
      go_ret
      exact ⟨rfl, Below.step HB.out hb1⟩
    · have hd : ((m : Int) == 0) = false := by simp; omega
      rw [decide_eq_false hm]
      go_enter Try.func63, Try.ntmps63
      go_wp2_with fail
      refine HAL.out.mono ?_
      rintro e w1 ⟨v, vs, rfl, hown, hb1⟩
      obtain ⟨a5, c5, rfl, hc5, hm5⟩ := hown.form
      unfold maxLen at hm5
      rw [HM.out] at hc5 ⊢
      clear hown
      go_wp2
      go_ret
      exact ⟨by simp [hd], Below.step HB.out hb1⟩
  · obtain rfl : n = 0 := by omega
    go_enter Try.func63, Try.ntmps63
    go_wp2
    go_ret
    exact ⟨rfl, HB.out⟩

set_option maxHeartbeats 1000000 in
theorem spec_IsWhole (t b : List Int) (w : World) (u1 u2 : Value) (h1 : Rd w u1 t) (h2 : Rd w u2 b) (m1 : t.length ≤ 1048576) (m2 : b.length ≤ 1048576) :
    Calls Try.prog 31 #[.agg #[u1, u2]] w (GivesD w (res_IsWhole t b) (ok_IsWhole t b)) := by
  unfold res_IsWhole ok_IsWhole
  have hA := Box2.new 28 w u1 u2
  have B1 : Below w.heap.size w (w.alloc (.cells #[u1, u2] 28)) := Below.alloc1 w _
  have k0 := hA.c0; have k1 := hA.c1
  have hrd := mePair_any t b _ u1 u2 (h1.below B1) (h2.below B1) m1 m2
  have HB := Lib.hid B1; have HA := Lib.hid hA; have H1 := Lib.hid (h1.below B1); have H2 := Lib.hid (h2.below B1)
  clear hA B1 h1 h2
  cases e1 : pairOk t b with
  | false =>
    rw [e1] at hrd
    have HR := Lib.hid hrd; clear hrd e1
    go_enter Try.func31, Try.ntmps31
    go_wp2_with fail
    refine HR.out.mono ?_
    rintro e w1 ⟨rfl, hb1⟩
    go_wp2
    go_ret2
    exact ⟨rfl, Below.step HB.out hb1⟩
  | true =>
    rw [e1] at hrd
    have hg := pairOk_good e1
    have HT := Lib.hid (fun w h1 h2 => siWhole_any t b hg.2.2 (pair12 hg).1 w u1 u2 h1 h2)
    have HR := Lib.hid hrd; clear hrd e1 hg
    simp only [Bool.true_and]
    generalize wholeB t b = N at *
    go_enter Try.func31, Try.ntmps31
    go_wp2_with fail
    refine HR.out.mono ?_
    rintro e w1 ⟨rfl, hb1⟩
    have n0 := (HA.out.below hb1).c0; have n1 := (HA.out.below hb1).c1
    have H11 := Lib.hid (H1.out.below hb1); have H21 := Lib.hid (H2.out.below hb1); have HB1 := Lib.hid (Below.step HB.out hb1)
    clear hb1 k0 k1
    go_wp2_with fail
    refine (HT.out _ H11.out H21.out).mono ?_
    rintro e w2 ⟨rfl, hb2⟩
    go_wp2
    go_ret2
    exact ⟨rfl, Below.step HB1.out hb2⟩

set_option maxHeartbeats 1000000 in
theorem spec_ClosedStretches (t b : List Int) (w : World) (u1 u2 : Value) (h1 : Rd w u1 t) (h2 : Rd w u2 b) (m1 : t.length ≤ 1048576) (m2 : b.length ≤ 1048576) :
    Calls Try.prog 16 #[.agg #[u1, u2]] w (GivesLL w (res_ClosedStretches t b) (ok_ClosedStretches t b)) := by
  unfold res_ClosedStretches ok_ClosedStretches
  have hA := Box2.new 28 w u1 u2
  have B1 : Below w.heap.size w (w.alloc (.cells #[u1, u2] 28)) := Below.alloc1 w _
  have k0 := hA.c0; have k1 := hA.c1
  have hrd := mePair_any t b _ u1 u2 (h1.below B1) (h2.below B1) m1 m2
  have HB := Lib.hid B1; have HA := Lib.hid hA; have H1 := Lib.hid (h1.below B1); have H2 := Lib.hid (h2.below B1)
  clear hA B1 h1 h2
  cases e1 : pairOk t b with
  | false =>
    rw [e1] at hrd
    have HR := Lib.hid hrd; clear hrd e1
    simp only [Bool.false_eq_true, if_false]
    go_enter Try.func16, Try.ntmps16
    go_wp2_with fail
    refine HR.out.mono ?_
    rintro e w1 ⟨rfl, hb1⟩
    go_wp2
    go_ret2
    exact ⟨_, [], rfl, OwnLL.mono (OwnLL.nil _ _ (Nat.le_refl _)) (Below.step HB.out hb1).size (Nat.le_refl _) (Nat.le_refl _), Below.step HB.out hb1⟩
  | true =>
    rw [e1] at hrd
    have hg := pairOk_good e1
    have HT := Lib.hid (fun w h1 h2 => siAll_any t b hg.2.2 (pair12 hg).1 w u1 u2 h1 h2)
    have HR := Lib.hid hrd; clear hrd e1 hg
    simp only [if_true]
    generalize (cutsL t b).map rowOf = M at *
    go_enter Try.func16, Try.ntmps16
    go_wp2_with fail
    refine HR.out.mono ?_
    rintro e w1 ⟨rfl, hb1⟩
    have n0 := (HA.out.below hb1).c0; have n1 := (HA.out.below hb1).c1
    have H11 := Lib.hid (H1.out.below hb1); have H21 := Lib.hid (H2.out.below hb1); have HB1 := Lib.hid (Below.step HB.out hb1)
    clear hb1 k0 k1
    go_wp2_with fail
    refine (HT.out _ H11.out H21.out).mono ?_
    rintro e w2 ⟨v, vs, rfl, ho, hb2⟩
    obtain ⟨a5, c5, rfl, _⟩ := ho.form
    have HO := Lib.hid ho; clear ho
    go_wp2
    go_ret2
    exact ⟨_, _, rfl, OwnLL.mono HO.out HB1.out.size (Nat.le_refl _) (Nat.le_refl _), Below.step HB1.out hb2⟩

set_option maxHeartbeats 1000000 in
theorem spec_ShortestClosed (t b : List Int) (w : World) (u1 u2 : Value) (h1 : Rd w u1 t) (h2 : Rd w u2 b) (m1 : t.length ≤ 1048576) (m2 : b.length ≤ 1048576) :
    Calls Try.prog 29 #[.agg #[u1, u2]] w (GivesC w (res1_ShortestClosed t b) (res2_ShortestClosed t b) (ok_ShortestClosed t b)) := by
  unfold res1_ShortestClosed res2_ShortestClosed ok_ShortestClosed
  have hA := Box2.new 28 w u1 u2
  have B1 : Below w.heap.size w (w.alloc (.cells #[u1, u2] 28)) := Below.alloc1 w _
  have k0 := hA.c0; have k1 := hA.c1
  have hrd := mePair_any t b _ u1 u2 (h1.below B1) (h2.below B1) m1 m2
  have HB := Lib.hid B1; have HA := Lib.hid hA; have H1 := Lib.hid (h1.below B1); have H2 := Lib.hid (h2.below B1)
  clear hA B1 h1 h2
  cases e1 : pairOk t b with
  | false =>
    rw [e1] at hrd
    have HR := Lib.hid hrd; clear hrd e1
    simp only [Bool.false_eq_true, if_false, Bool.false_and]
    go_enter Try.func29, Try.ntmps29
    go_wp2_with fail
    refine HR.out.mono ?_
    rintro e w1 ⟨rfl, hb1⟩
    go_wp2
    go_ret3
    exact ⟨rfl, Below.step HB.out hb1⟩
  | true =>
    rw [e1] at hrd
    have hg := pairOk_good e1
    have HT := Lib.hid (fun w h1 h2 => siShortest_any false t b hg.2.2 (pair12 hg).1 w u1 u2 h1 h2)
    have HR := Lib.hid hrd; clear hrd e1 hg
    simp only [if_true, Bool.true_and]
    go_enter Try.func29, Try.ntmps29
    go_wp2_with fail
    refine HR.out.mono ?_
    rintro e w1 ⟨rfl, hb1⟩
    have n0 := (HA.out.below hb1).c0; have n1 := (HA.out.below hb1).c1
    have H11 := Lib.hid (H1.out.below hb1); have H21 := Lib.hid (H2.out.below hb1); have HB1 := Lib.hid (Below.step HB.out hb1)
    clear hb1 k0 k1
    go_wp2_with fail
    refine (HT.out _ H11.out H21.out).mono ?_
    rintro e w2 ⟨v, rfl, hv, hb2⟩
    have HB2 := Lib.hid (Below.step HB1.out hb2); clear hb2
    rcases hv with ⟨rfl, hs⟩ | ⟨q, g, c, rfl, hs, c0, c1⟩
    · have HS := Lib.hid hs; clear hs
      go_wp2
      go_ret3
      exact ⟨by rw [HS.out]; rfl, HB2.out⟩
    · have HS := Lib.hid hs; clear hs
      go_wp2
      go_quiet (fail)
      go_wp2
      go_ret3
      exact ⟨by rw [HS.out]; rfl, Below.drewN HB2.out _⟩

end Go.Proofs.Ytaeeopdiodaiaaa
