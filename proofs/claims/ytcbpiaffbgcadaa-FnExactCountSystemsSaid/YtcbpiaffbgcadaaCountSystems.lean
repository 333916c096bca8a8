/- CountSystems. -/
import Derived.Test.YtcbpiaffbgcadaaNum
namespace Go.Proofs.Ytcbpiaffbgcadaa
open Go.RowKit
set_option linter.unusedSimpArgs false
set_option linter.unusedVariables false

def Pair (w : World) (x : Int) (b : Bool) (e : Ending) (w' : World) : Prop := e = .returned (.tuple #[.int .i64 x, .bool b]) ∧ w = w'

set_option maxHeartbeats 400000 in
theorem specCount (n : Int) (w : World) : Calls Try.prog 24 #[.int .i64 n] w (Pair w (countOf n) (inB n 0 6)) := by
  by_cases h : 0 ≤ n ∧ n ≤ 6
  · obtain ⟨k, rfl⟩ := Int.eq_ofNat_of_zero_le h.1
    have hk : k ≤ 6 := by omega
    have hb := inB_yes h.1 h.2
    have e : countOf (k : Int) = cat k := by simp [countOf, hb]
    rw [e, hb]
    have HB := Lib.hid hb; clear hb e h
    go_enter Try.func24, Try.ntmps24
    go_wp2_with (first | (go_at_call 48; refine (ahArches_any _ _).mono ?_; rintro e w' ⟨rfl, rfl⟩; rw [HB.out]) | (go_at_call 54; refine (ahCount_any _ hk _).mono ?_; rintro e w' ⟨rfl, rfl⟩))
    go_ret2
    exact ⟨rfl, rfl⟩
  · have hb := inB_no h
    have e : countOf n = 0 := by simp [countOf, hb]
    rw [e, hb]
    have HB := Lib.hid hb; clear hb e h
    go_enter Try.func24, Try.ntmps24
    go_wp2_with (first | (go_at_call 48; refine (ahArches_any _ _).mono ?_; rintro e w' ⟨rfl, rfl⟩; rw [HB.out]))
    go_ret2
    exact ⟨rfl, rfl⟩

set_option maxHeartbeats 400000 in
theorem implCount (n : Int) (w : World) : Calls Try.prog 25 #[.int .i64 n] w (Pair w (countOf n) (inB n 0 6)) := by
  by_cases h : 0 ≤ n ∧ n ≤ 6
  · obtain ⟨k, rfl⟩ := Int.eq_ofNat_of_zero_le h.1
    have hk : k ≤ 6 := by omega
    have hb := inB_yes h.1 h.2
    have e : countOf (k : Int) = cat k := by simp [countOf, hb]
    rw [e, hb]
    have HB := Lib.hid hb; clear hb e h
    go_enter Try.func25, Try.ntmps25
    go_wp2_with (first | (go_at_call 50; refine (isArchCount_any _ _).mono ?_; rintro e w' ⟨rfl, rfl⟩; rw [HB.out]) | (go_at_call 51; refine (catalan_any _ hk _).mono ?_; rintro e w' ⟨rfl, rfl⟩))
    go_ret2
    exact ⟨rfl, rfl⟩
  · have hb := inB_no h
    have e : countOf n = 0 := by simp [countOf, hb]
    rw [e, hb]
    have HB := Lib.hid hb; clear hb e h
    go_enter Try.func25, Try.ntmps25
    go_wp2_with (first | (go_at_call 50; refine (isArchCount_any _ _).mono ?_; rintro e w' ⟨rfl, rfl⟩; rw [HB.out]))
    go_ret2
    exact ⟨rfl, rfl⟩

set_option maxHeartbeats 400000 in
theorem core_CountSystems (n c : Int) (b : Bool) (w : World) (hs : ∀ w, Calls Try.prog 24 #[.int .i64 n] w (Pair w c b)) (hi : ∀ w, Calls Try.prog 25 #[.int .i64 n] w (Pair w c b)) :
    Calls Try.prog 5 #[.int .i64 n] w fun e w' => e = .returned (.bool true) ∧ w = w' := by
  have HS := Lib.hid hs; clear hs
  have HI := Lib.hid hi; clear hi
  go_enter Try.func5, Try.ntmps5
  go_wp2_with (first | (go_at_call 24; refine (HS.out _).mono ?_; rintro e w' ⟨rfl, rfl⟩) | (go_at_call 25; refine (HI.out _).mono ?_; rintro e w' ⟨rfl, rfl⟩))
  go_ret
  exact ⟨rfl, rfl⟩

theorem walk_CountSystems (n : Int) (_h : (Lit.int .i64 n).wf = true) (w : World) : Calls Try.prog 5 #[.int .i64 n] w fun e w' => e = .returned (.bool true) ∧ Grown w w' :=
  (core_CountSystems n _ _ w (specCount n) (implCount n)).mono fun e w' ⟨he, hw⟩ => ⟨he, hw ▸ Grown.refl _⟩

end Go.Proofs.Ytcbpiaffbgcadaa
