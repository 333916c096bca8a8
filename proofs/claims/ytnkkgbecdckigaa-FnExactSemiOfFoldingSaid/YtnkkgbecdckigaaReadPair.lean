/- readPair: two systems in a struct. -/
import Derived.Test.YtnkkgbecdckigaaSysV
import Derived.Test.YtnkkgbecdckigaaPair
namespace Go.Proofs.Ytnkkgbecdckigaa
open Go.RowKit
set_option linter.unusedSimpArgs false
set_option linter.unusedVariables false


end Go.Proofs.Ytnkkgbecdckigaa
