/- MeanderText: the program's function and the model's. -/
import Derived.Test.YtbinpefogecgmaaReadPair
import Derived.Test.YtbinpefogecgmaaText
namespace Go.Proofs.Ytbinpefogecgmaa
open Go.RowKit
set_option linter.unusedSimpArgs false
set_option linter.unusedVariables false

def pairT (t b : List Int) : ByteArray := textT t t.length ++ ⟨#[124]⟩ ++ textT b b.length
def ok_MeanderText (t b : List Int) : Bool := pairOk t b
def res_MeanderText (t b : List Int) : ByteArray := if pairOk t b then pairT t b else ByteArray.empty


end Go.Proofs.Ytbinpefogecgmaa
