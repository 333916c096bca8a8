/- All open words of seven numbers. -/
import Derived.Test.YteeoepbbocdchaaWdAll
namespace Go.Proofs.Yteeoepbbocdchaa
set_option linter.unusedSimpArgs false
set_option linter.unusedVariables false

theorem openCheck7 : openCheck 7 = true := by kernel_rfl
end Go.Proofs.Yteeoepbbocdchaa
