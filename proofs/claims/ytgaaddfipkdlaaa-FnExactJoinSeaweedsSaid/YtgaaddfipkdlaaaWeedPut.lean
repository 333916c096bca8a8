/- A first part replaced by others: the program's way. -/
import Derived.Test.YtgaaddfipkdlaaaWeedFlip
import Derived.Test.YtgaaddfipkdlaaaConcatP
namespace Go.Proofs.Ytgaaddfipkdlaaa
open Go.RowKit
set_option linter.unusedSimpArgs false
set_option linter.unusedVariables false

end Go.Proofs.Ytgaaddfipkdlaaa
