/- Exponents and products of values, in the program and in the model. -/
import Derived.Test.YtgaaddfipkdlaabTab
namespace Go.Proofs.Ytgaaddfipkdlaab
open Go.RowKit
set_option linter.unusedSimpArgs false
set_option linter.unusedVariables false

theorem four {m : Nat} (h1 : 1 ≤ m) (h2 : m ≤ 4) : m = 1 ∨ m = 2 ∨ m = 3 ∨ m = 4 := by omega
theorem upto3 {k : Nat} (h : k < 3) : k = 0 ∨ k = 1 ∨ k = 2 := by omega


end Go.Proofs.Ytgaaddfipkdlaab
