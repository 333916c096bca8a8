/- OuterArches. -/
import Derived.Test.YtbinpefogecgmabPoints
import Derived.Test.YtbinpefogecgmabEnum
namespace Go.Proofs.Ytbinpefogecgmab
open Go.RowKit
set_option linter.unusedSimpArgs false
set_option linter.unusedVariables false

def res_OuterArches (l : List Int) : List Int := if goodB l then whereL (isOuterB l) l.length else []
def ok_OuterArches (l : List Int) : Bool := goodB l
theorem len_OuterArches (l : List Int) : (res_OuterArches l).length ≤ 1000000 := by
  unfold res_OuterArches
  split
  · next h => have := whereL_len (isOuterB l) l.length; have := good_len' h; omega
  · simp

/-- from outer arch to outer arch -/
def outerRun (l : List Int) : Nat → Nat → List Int → List Int
  | 0, _, out => out
  | f + 1, i, out => if i < l.length then outerRun l f (par l i + 1) (out ++ [(i : Int)]) else out
def outerCheck (l : List Int) : Bool := outerRun l (l.length + 1) 0 [] == whereL (isOuterB l) l.length
theorem outerCheck0 : (sysAll 0).all outerCheck = true := by kernel_rfl
theorem outerCheck1 : (sysAll 1).all outerCheck = true := by kernel_rfl
theorem outerCheck2 : (sysAll 2).all outerCheck = true := by kernel_rfl
theorem outerCheck3 : (sysAll 3).all outerCheck = true := by kernel_rfl
theorem outerCheck4 : (sysAll 4).all outerCheck = true := by kernel_rfl
theorem outerCheck5 : (sysAll 5).all outerCheck = true := by kernel_rfl
theorem outerCheck6 : (sysAll 6).all outerCheck = true := by kernel_rfl

theorem outerRun_end {l : List Int} {f i : Nat} {out R : List Int} (h : outerRun l f i out = R) (hf : l.length - i < f) (hi : ¬ i < l.length) : out = R := by
  cases f with
  | zero => omega
  | succ f => rw [outerRun, if_neg hi] at h; exact h
theorem outerRun_step {l : List Int} {f i : Nat} {out R : List Int} (h : outerRun l (f + 1) i out = R) (hi : i < l.length) : outerRun l f (par l i + 1) (out ++ [(i : Int)]) = R := by
  rw [outerRun, if_pos hi] at h; exact h

/-- an arch that begins at an outer point begins (the run meets no ends) -/
def outerOk (l : List Int) : Nat → Nat → Bool
  | 0, _ => true
  | f + 1, i => !decide (i < l.length) || (decide (i < par l i) && outerOk l f (par l i + 1))
def outerOkCheck (l : List Int) : Bool := outerOk l (l.length + 1) 0
theorem outerOk0 : (sysAll 0).all outerOkCheck = true := by kernel_rfl
theorem outerOk1 : (sysAll 1).all outerOkCheck = true := by kernel_rfl
theorem outerOk2 : (sysAll 2).all outerOkCheck = true := by kernel_rfl
theorem outerOk3 : (sysAll 3).all outerOkCheck = true := by kernel_rfl
theorem outerOk4 : (sysAll 4).all outerOkCheck = true := by kernel_rfl
theorem outerOk5 : (sysAll 5).all outerOkCheck = true := by kernel_rfl
theorem outerOk6 : (sysAll 6).all outerOkCheck = true := by kernel_rfl
theorem outerOk_step {l : List Int} {f i : Nat} (h : outerOk l (f + 1) i = true) (hi : i < l.length) : i < par l i ∧ outerOk l f (par l i + 1) = true := by
  rw [outerOk, decide_eq_true hi] at h
  simpa using h

end Go.Proofs.Ytbinpefogecgmab
