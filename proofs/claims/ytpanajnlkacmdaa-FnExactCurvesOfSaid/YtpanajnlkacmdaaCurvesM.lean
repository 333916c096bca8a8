/- Plain mathematics: the points of each curve. -/
import Derived.Test.YtpanajnlkacmdaaWay
namespace Go.Proofs.Ytpanajnlkacmdaa
set_option linter.unusedSimpArgs false
set_option linter.unusedVariables false

/-- the points before k whose colour is q -/
def rowK (c : List Int) (k q : Nat) : List Int := ((List.range k).filter fun i => decide (c.getD i 0 = (q : Int))).map fun (i : Nat) => (i : Int)
def rowsK (c : List Int) (M k : Nat) : List (List Int) := (List.range M).map (rowK c k)
theorem rowK_succ_eq {c : List Int} {k q : Nat} (h : c.getD k 0 = (q : Int)) : rowK c (k + 1) q = rowK c k q ++ [(k : Int)] := by
  have h' : c[k]?.getD 0 = (q : Int) := by simpa [List.getD] using h
  simp [rowK, List.range_succ, List.filter_append, List.filter_cons, h']
theorem rowK_succ_ne {c : List Int} {k q : Nat} (h : c.getD k 0 ≠ (q : Int)) : rowK c (k + 1) q = rowK c k q := by
  have h' : ¬ c[k]?.getD 0 = (q : Int) := by simpa [List.getD] using h
  simp [rowK, List.range_succ, List.filter_append, List.filter_cons, h']
theorem rowsK_length (c : List Int) (M k : Nat) : (rowsK c M k).length = M := by simp [rowsK]
theorem rowsK_getD (c : List Int) (M k q : Nat) (hq : q < M) : (rowsK c M k).getD q [] = rowK c k q := by simp [rowsK, List.getD, hq]
theorem rowsK_set {c : List Int} {M k q : Nat} (hq : q < M) (h : c.getD k 0 = (q : Int)) : (rowsK c M k).set q (rowK c k q ++ [(k : Int)]) = rowsK c M (k + 1) := by
  apply List.ext_getElem
  · simp [rowsK]
  · intro i h1 h2
    by_cases e : q = i
    · subst e
      simp only [List.getElem_set_self, rowsK, List.getElem_map, List.getElem_range]
      exact (rowK_succ_eq h).symm
    · rw [List.getElem_set_ne e]
      simp only [rowsK, List.getElem_map, List.getElem_range]
      exact (rowK_succ_ne (by omega)).symm
theorem rowsK_zero (c : List Int) (M : Nat) : rowsK c M 0 = List.replicate M [] := by
  apply List.ext_getElem
  · simp [rowsK]
  · intro i h1 h2
    simp [rowsK, rowK]
theorem rowsK_snoc (c : List Int) (M k : Nat) : rowsK c (M + 1) k = rowsK c M k ++ [rowK c k M] := by simp [rowsK, List.range_succ]
theorem rowK_none {c : List Int} {k q : Nat} (h : ∀ i, i < k → c.getD i 0 ≠ (q : Int)) : rowK c k q = [] := by
  have : (List.range k).filter (fun i => decide (c.getD i 0 = (q : Int))) = [] := by
    rw [List.filter_eq_nil_iff]
    intro i hi
    simp only [decide_eq_true_eq]
    exact h i (List.mem_range.1 hi)
  rw [rowK, this]; rfl
theorem rowK_len (c : List Int) (k q : Nat) : (rowK c k q).length ≤ k := by
  have := List.length_filter_le (fun i => decide (c.getD i 0 = (q : Int))) (List.range k)
  rw [rowK, List.length_map]
  simpa using this

/-- how many colours the first k points have -/
def mxN (c : List Int) (k : Nat) : Nat := (mostL c k + 1).toNat
theorem mxN_int (c : List Int) (k : Nat) : ((mxN c k : Nat) : Int) = mostL c k + 1 := by have := mostL_le c k; unfold mxN; omega
theorem mxN_new {c : List Int} {k : Nat} (h : c.getD k 0 = ((mxN c k : Nat) : Int)) : mxN c (k + 1) = mxN c k + 1 ∧ rowK c k (mxN c k) = [] := by
  have e := mxN_int c k
  constructor
  · have e2 := mxN_int c (k + 1)
    have : mostL c (k + 1) = c.getD k 0 := by rw [mostL, if_pos (by omega)]
    omega
  · refine rowK_none fun i hi => ?_
    have := mostL_ge c k i hi
    omega
theorem mxN_old {c : List Int} {k : Nat} (h : c.getD k 0 < ((mxN c k : Nat) : Int)) : mxN c (k + 1) = mxN c k := by
  have e := mxN_int c k
  have e2 := mxN_int c (k + 1)
  have : mostL c (k + 1) = mostL c k := by rw [mostL, if_neg (by omega)]
  omega
theorem mxN_ge {t b : Nat → Nat} {n : Nat} {c : List Int} {m : Nat} (h : ColOk t b n n c m) (k : Nat) (hk : k < n) : 0 ≤ c.getD k 0 ∧ c.getD k 0 ≤ ((mxN c k : Nat) : Int) := by
  have e := mxN_int c k
  have h0 := h.done k hk hk
  refine ⟨h0, ?_⟩
  by_cases e0 : c.getD k 0 = 0
  · have := mostL_le c k; omega
  · obtain ⟨y, y1, y2⟩ := h.grow k hk hk (c.getD k 0 - 1) (by omega) (by omega)
    have := mostL_ge c k y y1
    omega
theorem mxN_all {t b : Nat → Nat} {n : Nat} (ht : PairedN t n) (hb : PairedN b n) : mxN (colN t b n) n = cntN t b n := by
  have := most_col ht hb
  have := mxN_int (colN t b n) n
  omega
def curvesLL (t b : List Int) : List (List Int) := rowsK (colN (par t) (par b) t.length) (cntN (par t) (par b) t.length) t.length

end Go.Proofs.Ytpanajnlkacmdaa
