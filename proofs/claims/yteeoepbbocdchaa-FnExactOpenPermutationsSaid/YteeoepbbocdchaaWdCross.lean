/- Joins of points and whether they cross. -/
import Derived.Test.YteeoepbbocdchaaPtV
import Derived.Test.YteeoepbbocdchaaGood
namespace Go.Proofs.Yteeoepbbocdchaa
open Go.RowKit
set_option linter.unusedSimpArgs false
set_option linter.unusedVariables false

theorem spanX_any (a b c d : Int) (w : World) :
    Calls Try.prog 171 #[.agg #[.int .i64 (min a b), .int .i64 (max a b)], .agg #[.int .i64 c, .int .i64 d]] w (Tells w (btwB a b c != btwB a b d)) := spanY_any (min a b) (max a b) c d w


end Go.Proofs.Yteeoepbbocdchaa
