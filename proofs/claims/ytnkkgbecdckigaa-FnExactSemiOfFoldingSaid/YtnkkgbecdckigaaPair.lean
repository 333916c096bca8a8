/- Pairs of systems: the program's and the model's. -/
import Derived.Test.YtnkkgbecdckigaaRead
import Derived.Test.YtnkkgbecdckigaaGood
import Derived.Test.YtnkkgbecdckigaaMeander
namespace Go.Proofs.Ytnkkgbecdckigaa
open Go.RowKit
set_option linter.unusedSimpArgs false
set_option linter.unusedVariables false

def pairOk (t b : List Int) : Bool := goodB t && goodB b && decide (t.length = b.length)
theorem pairOk_facts {t b : List Int} (h : pairOk t b = true) : goodB t = true ∧ goodB b = true ∧ t.length = b.length := by
  simp only [pairOk, Bool.and_eq_true, decide_eq_true_eq] at h
  exact ⟨h.1.1, h.1.2, h.2⟩


end Go.Proofs.Ytnkkgbecdckigaa
