/- CountSystems. -/
import Derived.Test.YtogjclmmjdhfeabNum
import Derived.Test.YtogjclmmjdhfeabSlice
namespace Go.Proofs.Ytogjclmmjdhfeab
open Go.RowKit
set_option linter.unusedSimpArgs false
set_option linter.unusedVariables false

def Pair (w : World) (x : Int) (b : Bool) (e : Ending) (w' : World) : Prop := e = .returned (.tuple #[.int .i64 x, .bool b]) ∧ w = w'

set_option maxHeartbeats 400000 in
theorem implCount (n : Int) (w : World) : Calls Try.prog 72 #[.int .i64 n] w (Pair w (countOf n) (inB n 0 6)) := by
  by_cases h : 0 ≤ n ∧ n ≤ 6
  · obtain ⟨k, rfl⟩ := Int.eq_ofNat_of_zero_le h.1
    have hk : k ≤ 6 := by omega
    have hb := inB_yes h.1 h.2
    have e : countOf (k : Int) = cat k := by simp [countOf, hb]
    rw [e, hb]
    have HB := Lib.hid hb; clear hb e h
    go_enter Try.func72, Try.ntmps72
    go_wp2_with (first | (go_at_call 152; refine (isArchCount_any _ _).mono ?_; rintro e w' ⟨rfl, rfl⟩; rw [HB.out]) | (go_at_call 153; refine (catalan_any _ hk _).mono ?_; rintro e w' ⟨rfl, rfl⟩))
    go_ret2
    exact ⟨rfl, rfl⟩
  · have hb := inB_no h
    have e : countOf n = 0 := by simp [countOf, hb]
    rw [e, hb]
    have HB := Lib.hid hb; clear hb e h
    go_enter Try.func72, Try.ntmps72
    go_wp2_with (first | (go_at_call 152; refine (isArchCount_any _ _).mono ?_; rintro e w' ⟨rfl, rfl⟩; rw [HB.out]))
    go_ret2
    exact ⟨rfl, rfl⟩

theorem impl_CountSystems (x : Int) (w : World) : Calls Try.prog 72 #[.int .i64 x] w (GivesN w (countOf x) (inB x 0 6)) :=
  (implCount x w).mono fun e w' h => ⟨h.1, by rw [← h.2]; exact Below.refl _ _⟩
end Go.Proofs.Ytogjclmmjdhfeab
