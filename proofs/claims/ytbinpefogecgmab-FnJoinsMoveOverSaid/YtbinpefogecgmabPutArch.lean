/- PutArch, the program's. -/
import Derived.Test.YtbinpefogecgmabPut
namespace Go.Proofs.Ytbinpefogecgmab
open Go.RowKit
set_option linter.unusedSimpArgs false
set_option linter.unusedVariables false

def ok_PutArch (l : List Int) (i j : Int) : Bool := goodB l && decide (l.length ≤ 10) && decide (0 ≤ i ∧ i < j ∧ j < (l.length : Int) + 2) && noCrossB (putL l i.toNat j.toNat)
def res_PutArch (l : List Int) (i j : Int) : List Int := if ok_PutArch l i j then putL l i.toNat j.toNat else []
theorem len_PutArch (l : List Int) (i j : Int) : (res_PutArch l i j).length ≤ 1000000 := by
  unfold res_PutArch
  split
  · next h => simp [ok_PutArch] at h; rw [putL_length]; omega
  · simp

theorem put_fits {l : List Int} {i j : Nat} (hij : i < j) (hj : j < l.length + 2) (base : List Int) (hb : base.length = l.length + 2) : ∀ k : Nat, k < l.length → 0 ≤ widenTo (i : Int) (j : Int) (k : Int) ∧ widenTo (i : Int) (j : Int) (k : Int) < base.length := by
  intro k hk
  have := widen_in hij hj k hk
  rw [hb]; omega

end Go.Proofs.Ytbinpefogecgmab
