/- InverseOf, BackwardsOf and MirrorPermutation in the program. -/
import Derived.Test.YtkohmdhjjnmfgabWdRow
namespace Go.Proofs.Ytkohmdhjjnmfgab
open Go.RowKit
set_option linter.unusedSimpArgs false
set_option linter.unusedVariables false

theorem wd_cases (l : List Int) (P : List Int → List Int → Bool → Prop) (h1 : wordB l = true → P l (idxW l) true) (h2 : wordB l = false → P [] zero12 false) : P (selL (wordB l) l) (selI (wordB l) l) (wordB l) := by
  cases h : wordB l with
  | true => exact h1 h
  | false => exact h2 h
theorem sel_len (l : List Int) : (selL (wordB l) l).length ≤ 12 := by
  cases h : wordB l with
  | true => exact word_len h
  | false => exact Nat.zero_le _
theorem seli_len (l : List Int) : (selI (wordB l) l).length = 12 := by
  cases h : wordB l with
  | true => exact idxW_length l
  | false => exact zero12_length
theorem sel_in (l : List Int) : InRange (selL (wordB l) l) := by
  cases h : wordB l with
  | true => exact (word_facts h).2.1
  | false => intro i hi; simp [selL_no] at hi




end Go.Proofs.Ytkohmdhjjnmfgab
