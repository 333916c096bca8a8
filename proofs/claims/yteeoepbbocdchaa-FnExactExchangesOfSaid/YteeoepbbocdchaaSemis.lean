/- Lists of semi-meanders: the program's generic lists of systems, the model's spSemis. -/
import Derived.Test.YteeoepbbocdchaaSysS
import Derived.Test.YteeoepbbocdchaaSemi2
import Derived.Test.YteeoepbbocdchaaFill
import Derived.Test.YteeoepbbocdchaaClosing
import Derived.Test.YteeoepbbocdchaaListsLaw
namespace Go.Proofs.Yteeoepbbocdchaa
open Go.RowKit
set_option linter.unusedSimpArgs false
set_option linter.unusedVariables false

def semisL (n : Nat) : List (List Int) := (allL n).filter semiB



end Go.Proofs.Yteeoepbbocdchaa
