/- The step that comes next, and its letter, by the program. -/
import Derived.Test.YtgaaddfipkdlaaaWeedSw2
namespace Go.Proofs.Ytgaaddfipkdlaaa
open Go.RowKit
set_option linter.unusedSimpArgs false
set_option linter.unusedVariables false

end Go.Proofs.Ytgaaddfipkdlaaa
