/- Pairs of systems: the program's and the model's. -/
import Derived.Test.YtodbjkfikbkkbacRead
import Derived.Test.YtodbjkfikbkkbacGood
import Derived.Test.YtodbjkfikbkkbacMeander
namespace Go.Proofs.Ytodbjkfikbkkbac
open Go.RowKit
set_option linter.unusedSimpArgs false
set_option linter.unusedVariables false

def pairOk (t b : List Int) : Bool := goodB t && goodB b && decide (t.length = b.length)


end Go.Proofs.Ytodbjkfikbkkbac
