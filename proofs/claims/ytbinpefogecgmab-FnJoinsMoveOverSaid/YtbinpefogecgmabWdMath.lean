/- Words: lists of 0..k-1 once each, k at most 12, and the index of each number. -/
import Derived.Test.YtbinpefogecgmabStkMath
namespace Go.Proofs.Ytbinpefogecgmab
set_option linter.unusedSimpArgs false
set_option linter.unusedVariables false

def wordB (l : List Int) : Bool := decide (l.length ≤ 12) && (rangeB l && freshB l)

def idxK (l : List Int) : Nat → List Int
  | 0 => List.replicate 12 0
  | k + 1 => (idxK l k).set (l.getD k 0).toNat (k : Int)
def atK (l : List Int) : Nat → List Int
  | 0 => List.replicate l.length 0
  | k + 1 => (atK l k).set k (l.getD k 0)

theorem idxK_length (l : List Int) : ∀ k, (idxK l k).length = 12
  | 0 => by simp [idxK]
  | k + 1 => by rw [idxK, List.length_set]; exact idxK_length l k
theorem atK_length (l : List Int) : ∀ k, (atK l k).length = l.length
  | 0 => by simp [atK]
  | k + 1 => by rw [atK, List.length_set]; exact atK_length l k

theorem gdW_eq (a : List Int) (i : Nat) (x : Int) (h : i < a.length) : (a.set i x).getD i 0 = x := by
  simp [List.getD, List.getElem?_set_self h]
theorem gdW_ne (a : List Int) (i j : Nat) (x : Int) (h : i ≠ j) : (a.set i x).getD j 0 = a.getD j 0 := by
  simp [List.getD, List.getElem?_set_ne h]

theorem ext_getD {a b : List Int} (hl : a.length = b.length) (h : ∀ i, i < a.length → a.getD i 0 = b.getD i 0) : a = b := by
  apply List.ext_getElem hl
  intro i h1 h2
  have := h i h1
  simpa [List.getD, List.getElem?_eq_getElem h1, List.getElem?_eq_getElem h2] using this

theorem atK_get (l : List Int) : ∀ k, k ≤ l.length → ∀ i, (atK l k).getD i 0 = if i < k then l.getD i 0 else 0
  | 0, _, i => by
    simp only [atK, List.getD, List.getElem?_replicate, Nat.not_lt_zero, if_false]
    split <;> rfl
  | k + 1, hk, i => by
    rw [atK]
    by_cases e : k = i
    · subst e
      rw [gdW_eq _ _ _ (by rw [atK_length]; omega), if_pos (by omega)]
    · rw [gdW_ne _ _ _ _ e, atK_get l k (by omega)]
      by_cases h2 : i < k
      · rw [if_pos h2, if_pos (by omega)]
      · rw [if_neg h2, if_neg (by omega)]

theorem atK_all (l : List Int) : atK l l.length = l := by
  refine ext_getD (atK_length _ _) fun i hi => ?_
  rw [atK_length] at hi
  rw [atK_get l _ (Nat.le_refl _), if_pos hi]

def InRange (l : List Int) : Prop := ∀ i, i < l.length → 0 ≤ l.getD i 0 ∧ l.getD i 0 < l.length

theorem range_in (l : List Int) : rangeB l = true ↔ InRange l := by
  unfold rangeB InRange
  rw [allFrom_iff]
  constructor
  · intro h i hi
    have := h i (Nat.zero_le _) (by omega)
    unfold inB at this
    have := of_decide_eq_true this
    omega
  · intro h i _ hi
    have := h i (by omega)
    unfold inB
    exact decide_eq_true (by omega)

theorem idxK_last (l : List Int) (h : l.length ≤ 12) (hr : InRange l) : ∀ k, k ≤ l.length → ∀ i, i < k → ∃ j, i ≤ j ∧ j < k ∧ l.getD j 0 = l.getD i 0 ∧ (idxK l k).getD (l.getD i 0).toNat 0 = (j : Int)
  | 0, _, i, hi => by omega
  | k + 1, hk, i, hi => by
    rw [idxK]
    have h1 := hr k (by omega)
    have h2 := hr i (by omega)
    by_cases e : l.getD k 0 = l.getD i 0
    · refine ⟨k, by omega, by omega, e, ?_⟩
      rw [← e, gdW_eq _ _ _ (by rw [idxK_length]; omega)]
    · have hik : i ≠ k := fun e2 => e (by rw [e2])
      obtain ⟨j, a1, a2, a3, a4⟩ := idxK_last l h hr k (by omega) i (by omega)
      refine ⟨j, a1, by omega, a3, ?_⟩
      rw [gdW_ne _ _ _ _ (by omega)]
      exact a4

theorem idx_fresh (l : List Int) (h : l.length ≤ 12) (hr : InRange l) : allFrom (fun i => decide ((idxK l l.length).getD (l.getD i 0).toNat 0 = (i : Int))) 0 l.length = freshB l := by
  rw [Bool.eq_iff_iff, fresh_iff, allFrom_iff]
  constructor
  · intro hh
    rw [List.nodup_iff_pairwise_ne, List.pairwise_iff_getElem]
    intro i j hi hj hij e
    have e' : l.getD i 0 = l.getD j 0 := by simp only [List.getD, List.getElem?_eq_getElem hi, List.getElem?_eq_getElem hj, Option.getD_some]; exact e
    have a1 := of_decide_eq_true (hh i (Nat.zero_le _) (by omega))
    have a2 := of_decide_eq_true (hh j (Nat.zero_le _) (by omega))
    rw [e', a2] at a1
    omega
  · intro hn i _ hi
    obtain ⟨j, a1, a2, a3, a4⟩ := idxK_last l h hr l.length (Nat.le_refl _) i (by omega)
    rw [a4]
    refine decide_eq_true ?_
    have : i = j := by
      have hi' : i < l.length := by omega
      simp only [List.getD, List.getElem?_eq_getElem hi', List.getElem?_eq_getElem a2, Option.getD_some] at a3
      exact ((List.getElem_inj hn).1 a3).symm
    omega

theorem word_facts {l : List Int} (h : wordB l = true) : l.length ≤ 12 ∧ InRange l ∧ l.Nodup := by
  unfold wordB at h
  simp only [Bool.and_eq_true, decide_eq_true_eq] at h
  exact ⟨h.1, (range_in l).1 h.2.1, (fresh_iff l).1 h.2.2⟩
theorem word_len {l : List Int} (h : wordB l = true) : l.length ≤ 12 := (word_facts h).1

/-- the index of the number at an index -/
theorem word_idx {l : List Int} (h : wordB l = true) {i : Nat} (hi : i < l.length) : (idxK l l.length).getD (l.getD i 0).toNat 0 = (i : Int) := by
  obtain ⟨h1, h2, h3⟩ := word_facts h
  have := idx_fresh l h1 h2
  rw [(fresh_iff l).2 h3, allFrom_iff] at this
  exact of_decide_eq_true (this i (Nat.zero_le _) (by omega))

/-- each number has an index -/
theorem word_has {l : List Int} (h : wordB l = true) {x : Nat} (hx : x < l.length) : ∃ i, i < l.length ∧ l.getD i 0 = (x : Int) ∧ (idxK l l.length).getD x 0 = (i : Int) := by
  obtain ⟨h1, h2, h3⟩ := word_facts h
  have hall : hasAllB l = true := by rw [hasAll_eq, (range_in l).2 h2, (fresh_iff l).2 h3]; rfl
  have hm := (hasAll_iff l).1 hall (x : Int) (mem_upTo.2 ⟨by omega, by omega⟩)
  obtain ⟨i, hi, e⟩ := List.getElem_of_mem hm
  have e' : l.getD i 0 = (x : Int) := by simp [List.getD, List.getElem?_eq_getElem hi, e]
  refine ⟨i, hi, e', ?_⟩
  have := word_idx h hi
  rw [e'] at this
  exact this

theorem word_nat {l : List Int} (h : wordB l = true) (i : Nat) (hi : i < l.length) : ∃ x : Nat, l.getD i 0 = (x : Int) ∧ x < l.length := by
  have := (word_facts h).2.1 i hi
  exact ⟨(l.getD i 0).toNat, by omega, by omega⟩

/-- a list of n numbers written by the numbers of another one -/
def putWK (l : List Int) (f : Nat → Int) (n : Nat) : Nat → List Int
  | 0 => List.replicate n 0
  | k + 1 => (putWK l f n k).set (l.getD k 0).toNat (f k)
theorem putWK_length (l : List Int) (f : Nat → Int) (n : Nat) : ∀ k, (putWK l f n k).length = n
  | 0 => by simp [putWK]
  | k + 1 => by rw [putWK, List.length_set]; exact putWK_length l f n k
theorem putWK_keep (l : List Int) (f : Nat → Int) (n x : Nat) : ∀ k, (∀ i, i < k → (l.getD i 0).toNat ≠ x) → (putWK l f n k).getD x 0 = 0
  | 0, _ => by simp only [putWK, List.getD, List.getElem?_replicate]; split <;> rfl
  | k + 1, h => by
    rw [putWK, gdW_ne _ _ _ _ (h k (by omega))]
    exact putWK_keep l f n x k fun i hi => h i (by omega)
theorem putWK_at {l : List Int} (h : wordB l = true) (f : Nat → Int) : ∀ k, k ≤ l.length → ∀ i, i < k → (putWK l f l.length k).getD (l.getD i 0).toNat 0 = f i
  | 0, _, i, hi => by omega
  | k + 1, hk, i, hi => by
    obtain ⟨h1, h2, h3⟩ := word_facts h
    have b1 := h2 k (by omega)
    have b2 := h2 i (by omega)
    rw [putWK]
    by_cases e : i = k
    · subst e
      rw [gdW_eq _ _ _ (by rw [putWK_length]; omega)]
    · rw [gdW_ne]
      · exact putWK_at h f k (by omega) i (by omega)
      · intro e2
        have e3 : l.getD k 0 = l.getD i 0 := by omega
        have hi' : i < l.length := by omega
        have hk' : k < l.length := by omega
        simp only [List.getD, List.getElem?_eq_getElem hi', List.getElem?_eq_getElem hk', Option.getD_some] at e3
        exact e ((List.getElem_inj h3).1 e3).symm
/-- told number by number -/
def tellL (n : Nat) (g : Nat → Int) : List Int := (List.range n).map g
theorem tellL_length (n : Nat) (g : Nat → Int) : (tellL n g).length = n := by simp [tellL]
theorem tellL_get (n : Nat) (g : Nat → Int) (i : Nat) (hi : i < n) : (tellL n g).getD i 0 = g i := by simp [tellL, List.getD, hi]
theorem putWK_tell {l : List Int} (h : wordB l = true) (f g : Nat → Int) (hg : ∀ i, i < l.length → g (l.getD i 0).toNat = f i) : putWK l f l.length l.length = tellL l.length g := by
  refine ext_getD (by rw [putWK_length, tellL_length]) fun x hx => ?_
  rw [putWK_length] at hx
  obtain ⟨i, hi, e, _⟩ := word_has h hx
  have h1 := putWK_at h f l.length (Nat.le_refl _) i hi
  have h2 := hg i hi
  rw [e] at h1 h2
  rw [tellL_get _ _ _ hx]
  exact h1.trans h2.symm

/-- whether two joins cross, by their four ends -/
def btwB (a b x : Int) : Bool := decide (min a b < x ∧ x < max a b)
def crsB (a b c d : Int) : Bool := btwB a b c != btwB a b d
/-- the joins at i and j -/
def crsAt (l : List Int) (i j : Nat) : Bool := crsB (l.getD i 0) (l.getD (i + 1) 0) (l.getD j 0) (l.getD (j + 1) 0)
/-- the first i for j, by steps of 2 -/
def crsRow (l : List Int) (j : Nat) : Nat → Nat → Option Nat
  | 0, _ => none
  | f + 1, i => if i < j then (if crsAt l i j then some i else crsRow l j f (i + 2)) else none
def rowOr : Option Nat → Nat → Option (Nat × Nat) → Option (Nat × Nat)
  | some i, j, _ => some (i, j)
  | none, _, G => G
def crsFrom (l : List Int) : Nat → Nat → Option (Nat × Nat)
  | 0, _ => none
  | f + 1, j => rowOr (crsRow l j (l.length + 1) (j % 2)) j (crsFrom l f (j + 1))
theorem crsRow_no (l : List Int) (j f i : Nat) (h : ¬ i < j) : crsRow l j f i = none := by
  cases f with
  | zero => rfl
  | succ f => rw [crsRow, if_neg h]
theorem crsRow_hit (l : List Int) (j f i : Nat) (h : i < j) (hf : j + 1 ≤ i + 2 * f) (hc : crsAt l i j = true) : crsRow l j f i = some i := by
  obtain ⟨g, rfl⟩ : ∃ g, f = g + 1 := ⟨f - 1, by omega⟩
  rw [crsRow, if_pos h, if_pos hc]
theorem crsRow_on (l : List Int) (j f i : Nat) (h : i < j) (hf : j + 1 ≤ i + 2 * f) (hc : crsAt l i j = false) : ∃ g, g + 1 = f ∧ crsRow l j f i = crsRow l j g (i + 2) := by
  obtain ⟨g, rfl⟩ : ∃ g, f = g + 1 := ⟨f - 1, by omega⟩
  refine ⟨g, rfl, ?_⟩
  rw [crsRow, if_pos h, if_neg (by rw [hc]; simp)]
theorem btw_minmax (a b c d : Int) : (btwB a b (min c d) != btwB a b (max c d)) = crsB a b c d := by
  unfold crsB
  by_cases h : c ≤ d
  · rw [Int.min_eq_left h, Int.max_eq_right h]
  · rw [Int.min_eq_right (by omega), Int.max_eq_left (by omega)]
    cases btwB a b c <;> cases btwB a b d <;> rfl
def firstCrs (l : List Int) : Option (Nat × Nat) := crsFrom l (l.length - 1) 0
def openB (l : List Int) : Bool := wordB l && (firstCrs l).isNone
theorem crsRow_lt (l : List Int) (j : Nat) : ∀ (f i k : Nat), crsRow l j f i = some k → k < j
  | 0, _, _, h => by cases h
  | f + 1, i, k, h => by
    rw [crsRow] at h
    split at h
    · next h1 =>
      split at h
      · cases h; exact h1
      · exact crsRow_lt l j f (i + 2) k h
    · cases h
theorem crsFrom_lt (l : List Int) : ∀ (f j i k : Nat), crsFrom l f j = some (i, k) → i < k ∧ k < j + f
  | 0, _, _, _, h => by cases h
  | f + 1, j, i, k, h => by
    rw [crsFrom] at h
    cases hr : crsRow l j (l.length + 1) (j % 2) with
    | none =>
      rw [hr] at h
      have := crsFrom_lt l f (j + 1) i k h
      omega
    | some x =>
      rw [hr] at h
      simp only [rowOr, Option.some.injEq, Prod.mk.injEq] at h
      have := crsRow_lt l j _ _ _ hr
      omega
theorem firstCrs_lt (l : List Int) {i j : Nat} (h : firstCrs l = some (i, j)) : i < j ∧ j < l.length := by
  have := crsFrom_lt l _ _ _ _ h
  omega
/-- no join below crosses the one that closes -/
def clsRow (l : List Int) : Nat → Nat → Bool
  | 0, _ => true
  | f + 1, i => if i + 1 < l.length then (if crsB (l.getD i 0) (l.getD (i + 1) 0) (l.getD (l.length - 1) 0) 0 then false else clsRow l f (i + 2)) else true
theorem clsRow_no (l : List Int) (f i : Nat) (h : ¬ i + 1 < l.length) : clsRow l f i = true := by
  cases f with
  | zero => rfl
  | succ f => rw [clsRow, if_neg h]
theorem clsRow_hit (l : List Int) (f i : Nat) (h : i + 1 < l.length) (hf : l.length + 1 ≤ i + 2 * f) (hc : crsB (l.getD i 0) (l.getD (i + 1) 0) (l.getD (l.length - 1) 0) 0 = true) : clsRow l f i = false := by
  obtain ⟨g, rfl⟩ : ∃ g, f = g + 1 := ⟨f - 1, by omega⟩
  rw [clsRow, if_pos h, if_pos hc]
theorem clsRow_on (l : List Int) (f i : Nat) (h : i + 1 < l.length) (hf : l.length + 1 ≤ i + 2 * f) (hc : crsB (l.getD i 0) (l.getD (i + 1) 0) (l.getD (l.length - 1) 0) 0 = false) : ∃ g, g + 1 = f ∧ clsRow l f i = clsRow l g (i + 2) := by
  obtain ⟨g, rfl⟩ : ∃ g, f = g + 1 := ⟨f - 1, by omega⟩
  refine ⟨g, rfl, ?_⟩
  rw [clsRow, if_pos h, if_neg (by rw [hc]; simp)]
def closesB (l : List Int) : Bool := decide (2 ≤ l.length) && (decide (l.length % 2 = 0) && (decide (l.getD 0 0 = 0) && clsRow l (l.length + 1) 1))
def closedB (l : List Int) : Bool := openB l && closesB l

end Go.Proofs.Ytbinpefogecgmab
