/- What is told of each number of a word: row, fromEnd, mirrored, parity. -/
import Derived.Test.YteeoepbbocdchaaPtV
namespace Go.Proofs.Yteeoepbbocdchaa
open Go.RowKit
set_option linter.unusedSimpArgs false
set_option linter.unusedVariables false

theorem tellL_succ (n : Nat) (g : Nat → Int) : tellL (n + 1) g = tellL n g ++ [g n] := by simp [tellL, List.range_succ]
/-- the first k told, zeros behind -/
def tellK (n : Nat) (g : Nat → Int) (k : Nat) : List Int := tellL k g ++ List.replicate (n - k) 0
theorem tellK_length (n : Nat) (g : Nat → Int) (k : Nat) (h : k ≤ n) : (tellK n g k).length = n := by simp [tellK, tellL_length]; omega
theorem tellK_zero (n : Nat) (g : Nat → Int) : tellK n g 0 = List.replicate n 0 := by simp [tellK, tellL]
theorem tellK_all (n : Nat) (g : Nat → Int) : tellK n g n = tellL n g := by simp [tellK]
theorem tellK_set (n : Nat) (g : Nat → Int) (k : Nat) (h : k < n) : (tellK n g k).set k (g k) = tellK n g (k + 1) := by
  unfold tellK
  rw [tellL_succ, List.set_append_right _ _ (by rw [tellL_length]; omega), tellL_length, Nat.sub_self, show n - k = (n - (k + 1)) + 1 by omega, List.replicate_succ, List.set_cons_zero, List.append_assoc]
  rfl






theorem placeW (n k : Nat) (h : k < n) : (n : Int) - 1 - (k : Int) = ((n - 1 - k : Nat) : Int) := by omega

end Go.Proofs.Yteeoepbbocdchaa
