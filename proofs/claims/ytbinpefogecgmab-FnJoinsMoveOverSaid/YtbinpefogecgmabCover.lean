/- CoverSystem. -/
import Derived.Test.YtbinpefogecgmabShift
import Derived.Test.YtbinpefogecgmabPutArch
namespace Go.Proofs.Ytbinpefogecgmab
open Go.RowKit
set_option linter.unusedSimpArgs false
set_option linter.unusedVariables false

def coverL (l : List Int) : List Int := ((l.length : Int) + 1) :: (shiftL l 1 ++ [0])
def coverCheck (l : List Int) : Bool := decide (10 < l.length) || (noCrossB (putL l 0 (l.length + 1)) && (putL l 0 (l.length + 1) == coverL l))
theorem coverCheck0 : (sysAll 0).all coverCheck = true := by kernel_rfl
theorem coverCheck1 : (sysAll 1).all coverCheck = true := by kernel_rfl
theorem coverCheck2 : (sysAll 2).all coverCheck = true := by kernel_rfl
theorem coverCheck3 : (sysAll 3).all coverCheck = true := by kernel_rfl
theorem coverCheck4 : (sysAll 4).all coverCheck = true := by kernel_rfl
theorem coverCheck5 : (sysAll 5).all coverCheck = true := by kernel_rfl
theorem coverCheck6 : (sysAll 6).all coverCheck = true := by kernel_rfl

def ok_CoverSystem (l : List Int) : Bool := goodB l && decide (l.length ≤ 10)
def res_CoverSystem (l : List Int) : List Int := if ok_CoverSystem l then coverL l else []
theorem len_CoverSystem (l : List Int) : (res_CoverSystem l).length ≤ 1000000 := by
  unfold res_CoverSystem
  split
  · next h => simp [ok_CoverSystem] at h; simp [coverL, shiftL_length]; omega
  · simp

theorem cover_eq (l : List Int) : ok_PutArch l 0 ((l.length : Int) + 1) = ok_CoverSystem l ∧ res_PutArch l 0 ((l.length : Int) + 1) = res_CoverSystem l := by
  have key : ok_CoverSystem l = true → noCrossB (putL l 0 (l.length + 1)) = true ∧ putL l 0 (l.length + 1) = coverL l := by
    intro h
    simp only [ok_CoverSystem, Bool.and_eq_true, decide_eq_true_eq] at h
    have h1 := good_all6 coverCheck0 coverCheck1 coverCheck2 coverCheck3 coverCheck4 coverCheck5 coverCheck6 h.1
    simp only [coverCheck, Bool.or_eq_true, decide_eq_true_eq, Bool.and_eq_true, beq_iff_eq] at h1
    rcases h1 with h1 | h1
    · omega
    · exact h1
  have e1 : ((l.length : Int) + 1).toNat = l.length + 1 := by omega
  have e2 : ok_PutArch l 0 ((l.length : Int) + 1) = ok_CoverSystem l := by
    unfold ok_PutArch
    rw [e1, decide_eq_true (show (0 : Int) ≤ 0 ∧ (0 : Int) < (l.length : Int) + 1 ∧ (l.length : Int) + 1 < (l.length : Int) + 2 by omega), Bool.and_true]
    cases h : ok_CoverSystem l with
    | true =>
      have h2 := (key h).1
      unfold ok_CoverSystem at h
      rw [h]
      exact h2
    | false =>
      unfold ok_CoverSystem at h
      rw [h]; rfl
  refine ⟨e2, ?_⟩
  unfold res_PutArch res_CoverSystem
  rw [e2, e1]
  cases h : ok_CoverSystem l with
  | true => exact (key h).2
  | false => rfl

end Go.Proofs.Ytbinpefogecgmab
