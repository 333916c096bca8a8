/- readWord, at any list. -/
import Derived.Test.YteeoepbbocdchaaWdRead
namespace Go.Proofs.Yteeoepbbocdchaa
open Go.RowKit
set_option linter.unusedSimpArgs false
set_option linter.unusedVariables false

def selL (R : Bool) (l : List Int) : List Int := if R then l else []
def selI (R : Bool) (l : List Int) : List Int := if R then idxW l else zero12
theorem selL_yes (l : List Int) : selL true l = l := rfl
theorem selL_no (l : List Int) : selL false l = [] := rfl
theorem selI_yes (l : List Int) : selI true l = idxK l l.length := rfl
theorem selI_no (l : List Int) : selI false l = zero12 := rfl

end Go.Proofs.Yteeoepbbocdchaa
