/- pairsOf, CountByComponents: the program's functions and the model's. -/
import Derived.Test.YtfcjgcbjiongpabAmong
namespace Go.Proofs.Ytfcjgcbjiongpab
open Go.RowKit
set_option linter.unusedSimpArgs false
set_option linter.unusedVariables false

def upJ (L M : List (List Int)) : List (List Int × List Int) := L.flatMap (fun p => M.map (fun q => (p, q)))
theorem upJ_len (L M : List (List Int)) : (upJ L M).length = L.length * M.length := by
  induction L with
  | nil => simp [upJ]
  | cons a r ih =>
    unfold upJ at ih ⊢
    simp only [List.flatMap_cons, List.length_append, List.length_map, ih, List.length_cons]
    rw [Nat.succ_mul]; omega
theorem upJ_succ (L M : List (List Int)) (k : Nat) (hk : k < L.length) : upJ (L.take (k + 1)) M = upJ (L.take k) M ++ M.map (fun q => (L.getD k [], q)) := by
  unfold upJ
  rw [List.take_add_one, List.flatMap_append]
  simp [List.getElem?_eq_getElem hk, List.getD]
def pairsN (n : Nat) : List (List Int × List Int) := upJ (allL n) (allL n)
def incL (c : List Int) (p : List Int × List Int) : List Int := c.set (compsL p.1 p.2) (c.getD (compsL p.1 p.2) 0 + 1)
def cntP (c : List Int) (ps : List (List Int × List Int)) : List Int := ps.foldl incL c
theorem cntP_len : ∀ (ps : List (List Int × List Int)) (c : List Int), (cntP c ps).length = c.length
  | [], _ => rfl
  | p :: r, c => by
    show (cntP (incL c p) r).length = _
    rw [cntP_len r, incL, List.length_set]
theorem cntP_snoc (c : List Int) (ps : List (List Int × List Int)) (p : List Int × List Int) : cntP c (ps ++ [p]) = incL (cntP c ps) p := by simp [cntP]
theorem incL_bd (c : List Int) (B : Int) (p : List Int × List Int) (h : ∀ j, 0 ≤ c.getD j 0 ∧ c.getD j 0 ≤ B) (j : Nat) : 0 ≤ (incL c p).getD j 0 ∧ (incL c p).getD j 0 ≤ B + 1 := by
  unfold incL
  have h1 := h j
  have h2 := h (compsL p.1 p.2)
  generalize compsL p.1 p.2 = i at *
  by_cases hj : j < c.length
  · by_cases e : i = j
    · subst e
      have : (c.set i (c.getD i 0 + 1)).getD i 0 = c.getD i 0 + 1 := by simp [List.getD, hj]
      rw [this]; omega
    · have : (c.set i (c.getD i 0 + 1)).getD j 0 = c.getD j 0 := by simp [List.getD, e]
      rw [this]; omega
  · have : (c.set i (c.getD i 0 + 1)).getD j 0 = 0 := by simp [List.getD, hj]
    rw [this]; omega
theorem cntP_bd : ∀ (ps : List (List Int × List Int)) (c : List Int) (B : Int), (∀ j, 0 ≤ c.getD j 0 ∧ c.getD j 0 ≤ B) → ∀ j, 0 ≤ (cntP c ps).getD j 0 ∧ (cntP c ps).getD j 0 ≤ B + ps.length
  | [], c, B, h, j => by have := h j; simpa [cntP] using this
  | p :: r, c, B, h, j => by
    have := cntP_bd r (incL c p) (B + 1) (incL_bd c B p h) j
    show 0 ≤ (cntP (incL c p) r).getD j 0 ∧ (cntP (incL c p) r).getD j 0 ≤ _
    rw [List.length_cons]
    omega
theorem zero_bd (n j : Nat) : 0 ≤ (List.replicate n (0 : Int)).getD j 0 ∧ (List.replicate n (0 : Int)).getD j 0 ≤ 0 := by
  by_cases h : j < n <;> simp [List.getD, h]
theorem cnt_bd (n : Nat) (ps : List (List Int × List Int)) (j : Nat) : 0 ≤ (cntP (List.replicate n 0) ps).getD j 0 ∧ (cntP (List.replicate n 0) ps).getD j 0 ≤ ps.length := by
  have := cntP_bd ps (List.replicate n 0) 0 (zero_bd n) j
  omega

theorem comps_check : (List.range 5).all (fun n => (allL n).all (fun p => (allL n).all (fun q => decide (compsL p q ≤ n)))) = true := by kernel_rfl
theorem comps_le {n : Nat} (hn : n ≤ 4) {p q : List Int} (hp : p ∈ allL n) (hq : q ∈ allL n) : compsL p q ≤ n := by
  have h1 := List.all_eq_true.1 comps_check n (List.mem_range.2 (by omega))
  have h2 := List.all_eq_true.1 (List.all_eq_true.1 h1 p hp) q hq
  simpa using h2
theorem allL_mem {n k : Nat} (hk : k < (allL n).length) : (allL n).getD k [] ∈ allL n := by simp [List.getD, hk]
theorem mem_good {n : Nat} (hn : n ≤ 6) {p : List Int} (hp : p ∈ allL n) : goodB p = true ∧ p.length = 2 * n := by
  obtain ⟨j, hj, e⟩ := List.getElem_of_mem hp
  have h := allL_good hn hj
  have e2 : (allL n).getD j [] = p := by rw [← e]; simp [List.getD, hj]
  rw [e2] at h
  exact h
theorem pairsN_mem {n : Nat} {p : List Int × List Int} (h : p ∈ pairsN n) : p.1 ∈ allL n ∧ p.2 ∈ allL n := by
  simp only [pairsN, upJ, List.mem_flatMap, List.mem_map] at h
  obtain ⟨a, ha, b, hb, rfl⟩ := h
  exact ⟨ha, hb⟩
theorem pairsN_at {n k : Nat} (hk : k < (pairsN n).length) : (pairsN n).getD k ([], []) ∈ pairsN n := by simp [List.getD, hk]
theorem allL_14 {n : Nat} (hn : n ≤ 4) : (allL n).length ≤ 14 := by rw [allL_length (by omega)]; exact (show ∀ m, m < 5 → catN m ≤ 14 by decide) n (by omega)
theorem allL_42 {n : Nat} (hn : n ≤ 5) : (allL n).length ≤ 42 := by rw [allL_length (by omega)]; exact (show ∀ m, m < 6 → catN m ≤ 42 by decide) n (by omega)
theorem pairsN_len5 {n : Nat} (hn : n ≤ 5) : (pairsN n).length ≤ 1764 := by
  unfold pairsN
  rw [upJ_len]
  have := allL_42 hn
  exact Nat.le_trans (Nat.mul_le_mul this this) (by omega)
theorem pairsN_len {n : Nat} (hn : n ≤ 4) : (pairsN n).length ≤ 196 := by
  unfold pairsN
  rw [upJ_len]
  have := allL_14 hn
  exact Nat.le_trans (Nat.mul_le_mul this this) (by omega)

def ok_CountByComponents (x : Int) : Bool := inB x 0 4
def res_CountByComponents (x : Int) : List Int := if inB x 0 4 then cntP (List.replicate (x.toNat + 1) 0) (pairsN x.toNat) else []
theorem len_CountByComponents (x : Int) : (res_CountByComponents x).length ≤ 1000000 := by
  unfold res_CountByComponents
  split
  · next h =>
    have := inB_iff.1 h
    rw [cntP_len, List.length_replicate]; omega
  · simp




end Go.Proofs.Ytfcjgcbjiongpab
