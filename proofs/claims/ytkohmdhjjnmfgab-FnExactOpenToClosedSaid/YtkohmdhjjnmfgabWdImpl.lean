/- IsPermutation, IsOpenPermutation, CrossingOf and PositionsOf in the program. -/
import Derived.Test.YtkohmdhjjnmfgabWdOpen
import Derived.Test.YtkohmdhjjnmfgabWdRow
import Derived.Test.YtkohmdhjjnmfgabWdV
namespace Go.Proofs.Ytkohmdhjjnmfgab
open Go.RowKit
set_option linter.unusedSimpArgs false
set_option linter.unusedVariables false

theorem closed_word {l : List Int} (h : wordB l = true) : closedB l = ((firstCrs l).isNone && closesB l) := by unfold closedB openB; rw [h]; rfl
theorem open_word' {l : List Int} (h : wordB l = true) : openB l = (firstCrs l).isNone := by unfold openB; rw [h]; rfl
theorem closed_nword {l : List Int} (h : wordB l = false) : closedB l = false := by unfold closedB openB; rw [h]; rfl
theorem open_nword {l : List Int} (h : wordB l = false) : openB l = false := by unfold openB; rw [h]; rfl




end Go.Proofs.Ytkohmdhjjnmfgab
