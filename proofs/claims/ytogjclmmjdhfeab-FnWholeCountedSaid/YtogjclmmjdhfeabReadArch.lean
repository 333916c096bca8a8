/- readArched: a pair with at least one arch, read. -/
import Derived.Test.YtogjclmmjdhfeabWalk
namespace Go.Proofs.Ytogjclmmjdhfeab
open Go.RowKit
set_option linter.unusedSimpArgs false
set_option linter.unusedVariables false


end Go.Proofs.Ytogjclmmjdhfeab
