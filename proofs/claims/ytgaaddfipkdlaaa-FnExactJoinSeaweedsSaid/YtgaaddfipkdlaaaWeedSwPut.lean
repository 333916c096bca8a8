/- A first part replaced by others: the model's way. -/
import Derived.Test.YtgaaddfipkdlaaaAppStep
import Derived.Test.YtgaaddfipkdlaaaWeedBeh
namespace Go.Proofs.Ytgaaddfipkdlaaa
open Go.RowKit
set_option linter.unusedSimpArgs false
set_option linter.unusedVariables false

end Go.Proofs.Ytgaaddfipkdlaaa
