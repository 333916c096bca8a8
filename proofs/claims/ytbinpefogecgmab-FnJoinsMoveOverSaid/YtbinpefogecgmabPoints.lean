/- Points of a system that are chosen. -/
import Derived.Test.YtbinpefogecgmabRead
import Derived.Test.YtbinpefogecgmabSlice
import Derived.Test.YtbinpefogecgmabGood
namespace Go.Proofs.Ytbinpefogecgmab
open Go.RowKit
set_option linter.unusedSimpArgs false
set_option linter.unusedVariables false

theorem begins_any (l : List Int) (i : Int) (w : World) (h : l.length ≤ 12) (h0 : 0 ≤ i) (h1 : i < 12) :
    Calls Try.prog 125 #[.agg (sysC l), .int .i64 i] w (GivesB w (beginsB l i)) := by
  obtain ⟨i, rfl⟩ := Int.eq_ofNat_of_zero_le h0
  have hc := sysC_get h i (by omega)
  unfold beginsB
  rw [Int.toNat_natCast]
  generalize l.getD i 0 = x at hc
  go_enter Try.func125, Try.ntmps125
  go_wp2
  go_ret
  exact ⟨rfl, Below.alloc1 _ _⟩

theorem isSmall_any (l : List Int) (i : Int) (w : World) (h : l.length ≤ 12) (h0 : 0 ≤ i) (h1 : i < 12) :
    Calls Try.prog 83 #[.agg (sysC l), .int .i64 i] w (GivesB w (isSmallB l i)) := by
  obtain ⟨i, rfl⟩ := Int.eq_ofNat_of_zero_le h0
  have hc := sysC_get h i (by omega)
  unfold isSmallB
  rw [Int.toNat_natCast]
  generalize l.getD i 0 = x at hc
  by_cases hx : x = (i : Int) + 1
  · rw [decide_eq_true hx]
    rw [hx] at hc
    clear hx
    go_enter Try.func83, Try.ntmps83
    go_wp2
    go_ret
    exact ⟨by simp, Below.alloc1 _ _⟩
  · rw [decide_eq_false hx]
    have hx2 : (x == (i : Int) + 1) = false := by simpa using hx
    clear hx
    go_enter Try.func83, Try.ntmps83
    go_wp2
    go_ret
    exact ⟨by simp [hx2], Below.alloc1 _ _⟩




end Go.Proofs.Ytbinpefogecgmab
