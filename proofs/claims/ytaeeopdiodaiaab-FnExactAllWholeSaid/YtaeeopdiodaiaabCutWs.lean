/- IsWhole, ShortestClosed, ClosedStretches of the model. -/
import Derived.Test.YtaeeopdiodaiaabCutAll
import Derived.Test.YtaeeopdiodaiaabCutSe
namespace Go.Proofs.Ytaeeopdiodaiaab
open Go.RowKit
set_option linter.unusedSimpArgs false
set_option linter.unusedVariables false

theorem cuts_none {t b : List Int} : (cutsL t b).length = 0 ↔ shortL false t b = none := by
  constructor
  · intro h
    unfold shortL
    rw [List.eq_nil_of_length_eq_zero h]
    rfl
  · intro h
    have hb := short_best false t b
    rw [h] at hb
    cases hc : cutsL t b with
    | nil => rfl
    | cons p r =>
      exfalso
      have hm : p ∈ cutsL t b := by rw [hc]; exact List.mem_cons_self
      have hm2 := List.mem_filter.1 hm
      exact hb p ⟨(mem_strAll t.length p).1 hm2.1, by simpa using hm2.2⟩
theorem whole_len (t b : List Int) : wholeB t b = (decide (0 < t.length) && decide ((cutsL t b).length = 0)) := by
  unfold wholeB
  congr 1
  rw [Bool.eq_iff_iff]
  simp only [decide_eq_true_eq, Option.isNone_iff_eq_none]
  exact cuts_none.symm

set_option maxHeartbeats 1000000 in
theorem siWhole_any (t b : List Int) (hl : t.length = b.length) (h12 : t.length ≤ 12) (w : World) (u1 u2 : Value) (h1 : Rd w u1 t) (h2 : Rd w u2 b) :
    Calls Try.prog 42 #[.agg #[u1, u2]] w (Tells w (wholeB t b)) := by
  have hA := Box2.new 33 w u1 u2
  have B1 : Below w.heap.size w (w.alloc (.cells #[u1, u2] 33)) := Below.alloc1 w _
  have k0 := hA.c0; have k1 := hA.c1
  have HAL := Lib.hid (siAll_any t b hl h12 _ u1 u2 (h1.below B1) (h2.below B1))
  have HB := Lib.hid B1
  obtain ⟨a1, c1, rfl, hc1, hm1, _⟩ := h1
  unfold maxLen at hm1
  have hlen : (cutsL t b).length ≤ 144 := cutsL_len h12
  have HM : Hid (((cutsL t b).map rowOf).length = (cutsL t b).length) := List.length_map _
  rw [whole_len]
  generalize (cutsL t b).map rowOf = M at *
  generalize (cutsL t b).length = m at *
  generalize t.length = n at *
  clear hA B1 h2 hl
  by_cases h0 : 0 < n
  · have hi : (0 : Int) < (n : Int) := by omega
    rw [decide_eq_true h0, Bool.true_and]
    by_cases hm : m = 0
    · subst hm
      go_enter Try.func42, Try.ntmps42
      go_wp2_with fail
      refine HAL.out.mono ?_
      rintro e w1 ⟨v, vs, rfl, hown, hb1⟩
      obtain ⟨a5, c5, rfl, hc5, hm5⟩ := hown.form
      unfold maxLen at hm5
      rw [HM.out] at hc5 ⊢
      clear hown
      go_wp2
      go_ret
      exact ⟨rfl, Below.step HB.out hb1⟩
    · have hd : ((m : Int) == 0) = false := by simp; omega
      rw [decide_eq_false hm]
      go_enter Try.func42, Try.ntmps42
      go_wp2_with fail
      refine HAL.out.mono ?_
      rintro e w1 ⟨v, vs, rfl, hown, hb1⟩
      obtain ⟨a5, c5, rfl, hc5, hm5⟩ := hown.form
      unfold maxLen at hm5
      rw [HM.out] at hc5 ⊢
      clear hown
      go_wp2
      go_ret
      exact ⟨by simp [hd], Below.step HB.out hb1⟩
  · obtain rfl : n = 0 := by omega
    go_enter Try.func42, Try.ntmps42
    go_wp2
    go_ret
    exact ⟨rfl, HB.out⟩




end Go.Proofs.Ytaeeopdiodaiaab
