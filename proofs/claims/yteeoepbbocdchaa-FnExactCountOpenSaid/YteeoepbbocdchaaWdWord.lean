/- wordOf: the word of a meander. -/
import Derived.Test.YteeoepbbocdchaaWayOne
import Derived.Test.YteeoepbbocdchaaWalkW
import Derived.Test.YteeoepbbocdchaaComps
import Derived.Test.YteeoepbbocdchaaWdRun
import Derived.Test.YteeoepbbocdchaaWdV
namespace Go.Proofs.Yteeoepbbocdchaa
open Go.RowKit
set_option linter.unusedSimpArgs false
set_option linter.unusedVariables false


end Go.Proofs.Yteeoepbbocdchaa
