/- FlipMeander: the program's function and the model's. -/
import Derived.Test.YtpanajnlkacmdaaPairM
namespace Go.Proofs.Ytpanajnlkacmdaa
open Go.RowKit
set_option linter.unusedSimpArgs false
set_option linter.unusedVariables false


end Go.Proofs.Ytpanajnlkacmdaa
