/- FlipMeander: the program's function and the model's. -/
import Derived.Test.YtfcjgcbjiongpabPairM
namespace Go.Proofs.Ytfcjgcbjiongpab
open Go.RowKit
set_option linter.unusedSimpArgs false
set_option linter.unusedVariables false

def ok_FlipMeander (t b : List Int) : Bool := pairOk t b
def res1_FlipMeander (t b : List Int) : List Int := if pairOk t b then b else []
def res2_FlipMeander (t b : List Int) : List Int := if pairOk t b then t else []
theorem len_FlipMeander (t b : List Int) : (res1_FlipMeander t b).length ≤ 1000000 ∧ (res2_FlipMeander t b).length ≤ 1000000 := by
  unfold res1_FlipMeander res2_FlipMeander
  cases h : pairOk t b with
  | false => simp
  | true =>
    obtain ⟨g1, g2, _⟩ := pairOk_facts h
    have := good_len' g1; have := good_len' g2
    simp; omega



end Go.Proofs.Ytfcjgcbjiongpab
