/- Slices of texts of the call's own; a digit turned into a text. -/
import Derived.Test.YtogjclmmjdhfeacOwn
namespace Go.Proofs.Ytogjclmmjdhfeac
open Go.RowKit
set_option linter.unusedSimpArgs false
set_option linter.unusedVariables false

/-- a slice of texts that the call made itself -/
def strs (l : List ByteArray) : List Value := l.map Value.string
end Go.Proofs.Ytogjclmmjdhfeac
