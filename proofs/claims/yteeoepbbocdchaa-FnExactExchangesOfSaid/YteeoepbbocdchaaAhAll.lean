/- The model's list of all systems. -/
import Derived.Test.YteeoepbbocdchaaFillM
import Derived.Test.YteeoepbbocdchaaLists
import Derived.Test.YteeoepbbocdchaaNum
import Derived.OwnWalk
namespace Go.Proofs.Yteeoepbbocdchaa
open Go.RowKit
set_option linter.unusedSimpArgs false
set_option linter.unusedVariables false

/-! plain facts of the list -/
def cntL : Nat → Nat → Nat
  | 0, _ => 1
  | f + 1, n => if n = 0 then 1 else ((List.range n).map fun k => cntL f k * cntL f (n - 1 - k)).sum
theorem ahL_cnt : ∀ (f n a : Nat), (ahL f n a).length = cntL f n
  | 0, n, a => rfl
  | f + 1, n, a => by
    rw [ahL, cntL]
    split
    · rfl
    · rw [List.length_flatMap]
      congr 1
      refine List.map_congr_left fun k hk => ?_
      rw [List.length_flatMap]
      simp only [List.length_map, ahL_cnt f]
      rw [List.map_const', List.sum_replicate_nat, ahL_cnt f]
theorem cntL_bd : (List.range 8).all (fun f => (List.range 7).all fun n => decide (cntL f n ≤ 1000)) = true := by kernel_rfl
theorem ahL_short {f n a : Nat} (hf : f ≤ 7) (hn : n ≤ 6) : (ahL f n a).length ≤ 1000 := by
  rw [ahL_cnt]
  have := List.all_eq_true.1 (List.all_eq_true.1 cntL_bd f (List.mem_range.2 (by omega))) n (List.mem_range.2 (by omega))
  simpa using this
theorem ahL_rows : ∀ (f n a : Nat), ∀ u ∈ ahL f n a, u.length ≤ 2 * n
  | 0, n, a, u, hu => by simp [ahL] at hu; subst hu; simp
  | f + 1, n, a, u, hu => by
    rw [ahL] at hu
    split at hu
    · simp at hu; subst hu; simp
    · simp only [List.mem_flatMap, List.mem_map, List.mem_range] at hu
      obtain ⟨k, hk, x, hx, y, hy, rfl⟩ := hu
      have h1 := ahL_rows f k (a + 1) x hx
      have h2 := ahL_rows f (n - 1 - k) (a + 2 * k + 2) y hy
      simp [ahRow]; omega
theorem row_len {f n a j : Nat} (hj : j < (ahL f n a).length) : ((ahL f n a).getD j []).length ≤ 2 * n := by
  refine ahL_rows f n a _ ?_
  simp [List.getD, hj]

def blkL (f n a k : Nat) : List (List Int) := (ahL f k (a + 1)).flatMap fun u => (ahL f (n - 1 - k) (a + 2 * k + 2)).map fun v => ahRow n a k u v
def outK (f n a k : Nat) : List (List Int) := (List.range k).flatMap (blkL f n a)
def outJ (O U V : List (List Int)) (n a k j : Nat) : List (List Int) := O ++ (U.take j).flatMap fun u => V.map fun v => ahRow n a k u v
def outT (O V : List (List Int)) (u : List Int) (n a k t : Nat) : List (List Int) := O ++ (V.take t).map fun v => ahRow n a k u v
theorem outK_all (f n a : Nat) (hn : n ≠ 0) : outK f n a n = ahL (f + 1) n a := by rw [ahL, if_neg hn]; rfl
theorem outK_succ (f n a k : Nat) : outK f n a (k + 1) = outJ (outK f n a k) (ahL f k (a + 1)) (ahL f (n - 1 - k) (a + 2 * k + 2)) n a k (ahL f k (a + 1)).length := by
  rw [outK, List.range_succ, List.flatMap_append, outJ, List.take_length]
  simp [outK, blkL]
theorem outJ_zero (O U V : List (List Int)) (n a k : Nat) : outJ O U V n a k 0 = O := by simp [outJ]
theorem outJ_succ (O U V : List (List Int)) (n a k j : Nat) (hj : j < U.length) : outJ O U V n a k (j + 1) = outT (outJ O U V n a k j) V (U.getD j []) n a k V.length := by
  rw [outJ, List.take_succ_eq_append_getElem hj, List.flatMap_append, outT, List.take_length, outJ]
  simp [List.getD, hj]
theorem outT_zero (O V : List (List Int)) (u : List Int) (n a k : Nat) : outT O V u n a k 0 = O := by simp [outT]
theorem outT_succ (O V : List (List Int)) (u : List Int) (n a k t : Nat) (ht : t < V.length) : outT O V u n a k (t + 1) = outT O V u n a k t ++ [ahRow n a k u (V.getD t [])] := by
  rw [outT, List.take_succ_eq_append_getElem ht, List.map_append, outT]
  simp [List.getD, ht]
theorem prefix_len {A B C : List (List Int)} (h : A ++ B = C) : A.length ≤ C.length := by rw [← h, List.length_append]; omega
theorem range_split {k n : Nat} (h : k ≤ n) : List.range n = List.range k ++ List.range' k (n - k) := by
  rw [List.range_eq_range', List.range_eq_range']
  have h1 := List.range'_append (s := 0) (m := k) (n := n - k) (step := 1)
  simp only [Nat.zero_add, Nat.one_mul] at h1
  rw [h1]; congr 1; omega
theorem outK_len {f n a k : Nat} (hk : k ≤ n) (hf : f ≤ 6) (hn : n ≤ 6) (hn0 : n ≠ 0) : (outK f n a k).length ≤ 1000 := by
  refine Nat.le_trans ?_ (ahL_short (f := f + 1) (n := n) (a := a) (by omega) hn)
  rw [← outK_all f n a hn0, outK, outK, List.length_flatMap, List.length_flatMap, range_split hk]
  rw [List.map_append, List.sum_append_nat]; omega
theorem outJ_len {O U V : List (List Int)} {n a k j : Nat} (hO : O.length ≤ 1000) (hU : U.length ≤ 1000) (hV : V.length ≤ 1000) : (outJ O U V n a k j).length ≤ 1001000 := by
  rw [outJ, List.length_append, List.length_flatMap]
  simp only [List.length_map]
  rw [List.map_const', List.sum_replicate_nat, List.length_take]
  have : min j U.length * V.length ≤ 1000 * 1000 := Nat.mul_le_mul (by omega) hV
  omega
theorem outT_len {O V : List (List Int)} {u : List Int} {n a k t : Nat} (hO : O.length ≤ 1001000) (hV : V.length ≤ 1000) : (outT O V u n a k t).length ≤ 1002000 := by
  rw [outT, List.length_append, List.length_map, List.length_take]; omega

end Go.Proofs.Yteeoepbbocdchaa
