/- A step that winds a seaweed down, by the model: rotations, contractions; all together. -/
import Derived.Test.YtgaaddfipkdlaaaWeedSw
namespace Go.Proofs.Ytgaaddfipkdlaaa
open Go.RowKit
set_option linter.unusedSimpArgs false
set_option linter.unusedVariables false

end Go.Proofs.Ytgaaddfipkdlaaa
