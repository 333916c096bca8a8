/- A stamp more: plain mathematics. -/
import Derived.Test.YtogjclmmjdhfeacStkMath
namespace Go.Proofs.Ytogjclmmjdhfeac
set_option linter.unusedSimpArgs false
set_option linter.unusedVariables false

/-- the list with its own length put in at a place -/
def insL (l : List Int) (p : Nat) : List Int := l.take p ++ (l.length : Int) :: l.drop p
theorem insL_length {l : List Int} {p : Nat} : (insL l p).length = l.length + 1 := by
  unfold insL
  rw [List.length_append, List.length_cons, List.length_take, List.length_drop]
  omega
theorem insL_mem {l : List Int} {p : Nat} {x : Int} : x ∈ insL l p ↔ x = (l.length : Int) ∨ x ∈ l := by
  unfold insL
  rw [List.mem_append, List.mem_cons]
  have h : x ∈ l ↔ x ∈ l.take p ∨ x ∈ l.drop p := by
    rw [← List.mem_append, List.take_append_drop]
  rw [h]
  constructor
  · rintro (h | h | h)
    · exact .inr (.inl h)
    · exact .inl h
    · exact .inr (.inr h)
  · rintro (h | h | h)
    · exact .inr (.inl h)
    · exact .inl h
    · exact .inr (.inr h)
theorem insL_stack {l : List Int} {p : Nat} (h : stackB l = true) (h7 : l.length ≤ 7) : stackB (insL l p) = true := by
  unfold stackB
  rw [insL_length, (hasAll_iff (insL l p)).2]
  · simp; omega
  · intro x hx
    rw [insL_length] at hx
    have hx2 := mem_upTo.1 hx
    rw [insL_mem]
    by_cases e : x = (l.length : Int)
    · exact .inl e
    · right
      have := (stack_facts h).2.2.2.2 x.toNat (by omega)
      rwa [Int.toNat_of_nonneg hx2.1] at this

/-- lists in the order of words, as a difference -/
def lessL : List Int → List Int → Int
  | [], b => -(b.length : Int)
  | _ :: _, [] => 1
  | x :: a, y :: b => if x = y then lessL a b else x - y
theorem lessL_at : ∀ (P : List Int) (x y : Int) (a b : List Int), x ≠ y → lessL (P ++ x :: a) (P ++ y :: b) = x - y
  | [], x, y, a, b, h => by simp [lessL, h]
  | z :: P, x, y, a, b, h => by
    rw [List.cons_append, List.cons_append, lessL, if_pos rfl]
    exact lessL_at P x y a b h
theorem insL_less {l : List Int} {j k : Nat} (hs : ∀ k, k < l.length → 0 ≤ l.getD k 0 ∧ l.getD k 0 < l.length) (hj : j < k) (hk : k ≤ l.length) : 0 < lessL (insL l j) (insL l k) := by
  have hjl : j < l.length := by omega
  have e : insL l k = l.take j ++ l.getD j 0 :: ((l.drop (j + 1)).take (k - (j + 1)) ++ (l.length : Int) :: l.drop k) := by
    unfold insL
    have e1 : l.take k = l.take j ++ l.getD j 0 :: (l.drop (j + 1)).take (k - (j + 1)) := by
      have := List.take_append_drop j (l.take k)
      rw [← this, List.take_take, Nat.min_eq_left (by omega)]
      congr 1
      rw [List.drop_take, List.drop_eq_getElem_cons hjl, show k - j = (k - (j + 1)) + 1 by omega, List.take_succ_cons]
      congr 1
      simp [List.getD, hjl]
    rw [e1, List.append_assoc, List.cons_append]
  have h2 := hs j hjl
  rw [e]
  unfold insL
  rw [lessL_at _ _ _ _ _ (by omega)]
  omega

/-- all foldings with a stamp more, the highest place last -/
def addFrom (l : List Int) (k : Nat) : List (List Int) := ((List.range k).map fun i => insL l (l.length - i)).filter foldB
def addedL (l : List Int) : List (List Int) := addFrom l (l.length + 1)
theorem addFrom_succ (l : List Int) (k : Nat) : addFrom l (k + 1) = addFrom l k ++ (if foldB (insL l (l.length - k)) then [insL l (l.length - k)] else []) := by
  unfold addFrom
  rw [List.range_succ, List.map_append, List.filter_append]
  congr 1
  simp only [List.map_cons, List.map_nil, List.filter_cons, List.filter_nil]
/-- the same, each put ahead of those before -/
def addRev (l : List Int) : Nat → List (List Int)
  | 0 => []
  | k + 1 => if foldB (insL l k) then insL l k :: addRev l k else addRev l k
theorem addRev_eq (l : List Int) : ∀ k, addRev l k = ((List.range k).reverse.map (insL l)).filter foldB
  | 0 => rfl
  | k + 1 => by
    rw [addRev, List.range_succ, List.reverse_append, List.reverse_singleton, List.singleton_append, List.map_cons, List.filter_cons, addRev_eq l k]
theorem addRev_all (l : List Int) : addRev l (l.length + 1) = addedL l := by
  rw [addRev_eq]
  unfold addedL addFrom
  congr 1
  apply List.ext_getElem
  · simp
  · intro i h1 h2
    simp only [List.length_map, List.length_reverse, List.length_range] at h1
    simp only [List.getElem_map, List.getElem_reverse, List.getElem_range, List.length_range]
    rw [show l.length + 1 - 1 - i = l.length - i by omega]
theorem addRev_len (l : List Int) : ∀ k, (addRev l k).length ≤ k
  | 0 => Nat.le_refl _
  | k + 1 => by
    have := addRev_len l k
    unfold addRev
    split
    · simp only [List.length_cons]; omega
    · omega
theorem addRev_head {l : List Int} : ∀ k, 0 < (addRev l k).length → ∃ j, j < k ∧ (addRev l k).getD 0 [] = insL l j
  | 0, h => by simp [addRev] at h
  | k + 1, h => by
    unfold addRev at h ⊢
    by_cases e : foldB (insL l k) = true
    · rw [if_pos e]; exact ⟨k, by omega, rfl⟩
    · rw [if_neg e] at h ⊢
      obtain ⟨j, h1, h2⟩ := addRev_head k h
      exact ⟨j, by omega, h2⟩
theorem addRev_rows {l : List Int} : ∀ k, ∀ r ∈ addRev l k, r.length = l.length + 1
  | 0, r, h => by simp [addRev] at h
  | k + 1, r, h => by
    unfold addRev at h
    split at h
    · rcases List.mem_cons.1 h with rfl | h
      · exact insL_length
      · exact addRev_rows k r h
    · exact addRev_rows k r h

def ok_AddStamp (l : List Int) : Bool := stackB l && foldB l && !decide (l.length = 8)
def res_AddStamp (l : List Int) : List (List Int) := if ok_AddStamp l then addedL l else []
end Go.Proofs.Ytogjclmmjdhfeac
