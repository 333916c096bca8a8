/- InverseOf, BackwardsOf and MirrorPermutation in the model. -/
import Derived.Test.YtkohmdhjjnmfgabWdInv
import Derived.Test.YtkohmdhjjnmfgabWdSpec
import Derived.Test.YtkohmdhjjnmfgabOwn
namespace Go.Proofs.Ytkohmdhjjnmfgab
open Go.RowKit
set_option linter.unusedSimpArgs false
set_option linter.unusedVariables false




end Go.Proofs.Ytkohmdhjjnmfgab
