/- The program's walk round a curve; the curves of a pair. -/
import Derived.Test.YtnkkgbecdckigaaWay
import Derived.Test.YtnkkgbecdckigaaReadPair
import Derived.Test.YtnkkgbecdckigaaJoin
import Derived.Deep.LoopGhost
import Derived.Deep.RegionHeld3
import Derived.Deep.MidRow
import Derived.Deep.DeepCutAuto
namespace Go.Proofs.Ytnkkgbecdckigaa
open Go.RowKit
set_option linter.unusedSimpArgs false
set_option linter.unusedVariables false


end Go.Proofs.Ytnkkgbecdckigaa
