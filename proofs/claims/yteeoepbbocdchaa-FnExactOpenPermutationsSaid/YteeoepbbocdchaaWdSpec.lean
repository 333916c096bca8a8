/- The model's peWord. -/
import Derived.Test.YteeoepbbocdchaaWdMath
import Derived.Test.YteeoepbbocdchaaStkSpec
import Derived.IntWalk
namespace Go.Proofs.Yteeoepbbocdchaa
open Go.RowKit
set_option linter.unusedSimpArgs false
set_option linter.unusedVariables false

end Go.Proofs.Yteeoepbbocdchaa
