/- Rainbows and flat systems. -/
import Derived.Test.YtbinpefogecgmaaRain
import Derived.Test.YtbinpefogecgmaaRead
import Derived.Test.YtbinpefogecgmaaSlice
namespace Go.Proofs.Ytbinpefogecgmaa
open Go.RowKit
set_option linter.unusedSimpArgs false
set_option linter.unusedVariables false

def res_RainbowOf (x : Int) : List Int := if inB x 0 6 then rainbow x.toNat else []
def ok_RainbowOf (x : Int) : Bool := inB x 0 6

theorem len_RainbowOf (x : Int) : (res_RainbowOf x).length ≤ 1000000 := by
  unfold res_RainbowOf
  split
  · next h =>
    have := inB_iff.1 h
    rw [rainbow_len]; omega
  · simp

theorem spec_RainbowOf (x : Int) (w : World) : Calls Try.prog 43 #[.int .i64 x] w (Gives w (res_RainbowOf x) (ok_RainbowOf x)) := by
  unfold res_RainbowOf ok_RainbowOf
  by_cases h : 0 ≤ x ∧ x ≤ 6
  · obtain ⟨n, rfl⟩ := Int.eq_ofNat_of_zero_le h.1
    have hn : n ≤ 6 := by omega
    have hb := inB_yes h.1 h.2
    rw [hb]
    simp only [if_true, Int.toNat_natCast]
    have HB := Lib.hid hb; clear hb h
    go_enter Try.func43, Try.ntmps43
    go_wp2_with (first | (go_at_call 72; refine (ahArches_any _ _).mono ?_; rintro e w' ⟨rfl, rfl⟩; rw [HB.out]) | (go_at_call 104; refine (ahRainbow_any n hn _).mono ?_; rintro e w' ⟨v, rfl, hown, hbel⟩))
    go_ret2
    exact ⟨_, rfl, hown, hbel⟩
  · have hb := inB_no h
    rw [hb]
    have HB := Lib.hid hb; clear hb h
    go_enter Try.func43, Try.ntmps43
    go_wp2_with (go_at_call 72; refine (ahArches_any _ _).mono ?_; rintro e w' ⟨rfl, rfl⟩; rw [HB.out])
    go_ret2
    exact ⟨_, rfl, Own.nil _ _, Below.refl _ _⟩

set_option maxHeartbeats 1000000 in
theorem impl_RainbowOf (x : Int) (w : World) : Calls Try.prog 41 #[.int .i64 x] w (Gives w (res_RainbowOf x) (ok_RainbowOf x)) := by
  unfold res_RainbowOf ok_RainbowOf
  by_cases h : 0 ≤ x ∧ x ≤ 6
  · obtain ⟨n, rfl⟩ := Int.eq_ofNat_of_zero_le h.1
    have hn : n ≤ 6 := by omega
    have hb := inB_yes h.1 h.2
    rw [hb]
    simp only [if_true, Int.toNat_natCast]
    have HB := Lib.hid hb; have HN := Lib.hid hn; clear hb h hn
    go_enter Try.func41, Try.ntmps41
    go_wp2_with (first
      | (go_at_call 77; refine (isArchCount_any _ _).mono ?_; rintro e w' ⟨rfl, rfl⟩; rw [HB.out])
      | (go_at_call 103; refine (rainbow_any n _ HN.out).mono ?_; rintro e w1 ⟨rfl, hb1⟩)
      | (go_at_call 80; refine (list_any _ _ (rainbow_le n HN.out)).mono ?_; rintro e w2 ⟨v, rfl, hown, hb2⟩))
    go_ret2
    exact ⟨_, rfl, hown.mono hb1.size, Below.step hb1 hb2⟩
  · have hb := inB_no h
    rw [hb]
    have HB := Lib.hid hb; clear hb h
    go_enter Try.func41, Try.ntmps41
    go_wp2_with (go_at_call 77; refine (isArchCount_any _ _).mono ?_; rintro e w' ⟨rfl, rfl⟩; rw [HB.out])
    go_ret2
    exact ⟨_, rfl, Own.nil _ _, Below.refl _ _⟩

end Go.Proofs.Ytbinpefogecgmaa
