/- IsClosed: readStretch, the model's siClosed and siStretch. -/
/- readStretch where it fails. -/
import Derived.Test.YtaeeopdiodaiaabCutStr
namespace Go.Proofs.Ytaeeopdiodaiaab
open Go.RowKit
set_option linter.unusedSimpArgs false
set_option linter.unusedVariables false

theorem inS_yes {n : Nat} {i j : Int} (h : inS n i j = true) : ∃ a b : Nat, i = (a : Int) ∧ j = (b : Int) ∧ a < b ∧ b < n := by
  simp only [inS, decide_eq_true_eq] at h
  obtain ⟨a, rfl⟩ := Int.eq_ofNat_of_zero_le h.1
  obtain ⟨b, rfl⟩ := Int.eq_ofNat_of_zero_le (by omega : 0 ≤ j)
  exact ⟨a, b, rfl, rfl, by omega, by omega⟩


end Go.Proofs.Ytaeeopdiodaiaab

namespace Go.Proofs.Ytaeeopdiodaiaab
open Go.RowKit
set_option linter.unusedSimpArgs false
set_option linter.unusedVariables false


end Go.Proofs.Ytaeeopdiodaiaab
