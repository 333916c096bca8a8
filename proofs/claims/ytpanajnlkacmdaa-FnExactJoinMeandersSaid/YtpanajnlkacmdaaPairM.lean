/- A pair by value as two lists; FlipMeander. -/
import Derived.Test.YtpanajnlkacmdaaReadPair
import Derived.Test.YtpanajnlkacmdaaShift
import Derived.Test.YtpanajnlkacmdaaOwn
import Derived.RegionTactic
import Derived.Deep.RegionWith
namespace Go.Proofs.Ytpanajnlkacmdaa
open Go.RowKit
set_option linter.unusedSimpArgs false
set_option linter.unusedVariables false


end Go.Proofs.Ytpanajnlkacmdaa
