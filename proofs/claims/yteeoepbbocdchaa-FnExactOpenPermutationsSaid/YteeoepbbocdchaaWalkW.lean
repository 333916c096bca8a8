/- The walk round a curve with wordOf's visitor. -/
import Derived.Test.YteeoepbbocdchaaWalk
namespace Go.Proofs.Yteeoepbbocdchaa
open Go.RowKit
set_option linter.unusedSimpArgs false
set_option linter.unusedVariables false


end Go.Proofs.Yteeoepbbocdchaa
