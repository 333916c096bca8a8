/- IsClosed, InsideOf, OutsideOf: the program's functions and the model's. -/
import Derived.Test.YtaeeopdiodaiaabCutIs
import Derived.Test.YtaeeopdiodaiaabCutAl
import Derived.Test.YtaeeopdiodaiaabCutSp
import Derived.Test.YtaeeopdiodaiaabPairM
namespace Go.Proofs.Ytaeeopdiodaiaab
open Go.RowKit
set_option linter.unusedSimpArgs false
set_option linter.unusedVariables false

theorem ok_pair {t b : List Int} (h : goodP t b) : pairOk t b = true := by simp [pairOk, h.1, h.2.1, h.2.2]




end Go.Proofs.Ytaeeopdiodaiaab
