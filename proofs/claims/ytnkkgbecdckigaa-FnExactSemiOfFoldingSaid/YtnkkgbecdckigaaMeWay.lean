/- The model's way round a curve. -/
import Derived.Test.YtnkkgbecdckigaaWay
import Derived.Test.YtnkkgbecdckigaaMeander
import Derived.Test.YtnkkgbecdckigaaOwn
import Derived.Deep.LoopGhost
import Derived.Deep.QuietTactic
import Derived.BigQuiet
namespace Go.Proofs.Ytnkkgbecdckigaa
open Go.RowKit
set_option linter.unusedSimpArgs false
set_option linter.unusedVariables false


end Go.Proofs.Ytnkkgbecdckigaa
