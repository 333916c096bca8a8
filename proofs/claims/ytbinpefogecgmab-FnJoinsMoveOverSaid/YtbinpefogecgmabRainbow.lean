/- Rainbows and flat systems. -/
import Derived.Test.YtbinpefogecgmabRain
import Derived.Test.YtbinpefogecgmabRead
import Derived.Test.YtbinpefogecgmabSlice
namespace Go.Proofs.Ytbinpefogecgmab
open Go.RowKit
set_option linter.unusedSimpArgs false
set_option linter.unusedVariables false

def res_RainbowOf (x : Int) : List Int := if inB x 0 6 then rainbow x.toNat else []
def ok_RainbowOf (x : Int) : Bool := inB x 0 6

theorem len_RainbowOf (x : Int) : (res_RainbowOf x).length ≤ 1000000 := by
  unfold res_RainbowOf
  split
  · next h =>
    have := inB_iff.1 h
    rw [rainbow_len]; omega
  · simp

end Go.Proofs.Ytbinpefogecgmab
