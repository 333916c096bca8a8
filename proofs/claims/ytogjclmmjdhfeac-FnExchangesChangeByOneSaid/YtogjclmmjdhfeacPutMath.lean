/- Lists put into ordered lists: plain mathematics. -/
import Derived.Test.YtogjclmmjdhfeacAddMath
namespace Go.Proofs.Ytogjclmmjdhfeac
set_option linter.unusedSimpArgs false
set_option linter.unusedVariables false

/-- one more, at a place -/
def insAt {α : Type} (xs : List α) (k : Nat) (x : α) : List α := xs.take k ++ x :: xs.drop k
theorem insAt_length {α : Type} (xs : List α) (k : Nat) (x : α) : (insAt xs k x).length = xs.length + 1 := by
  unfold insAt
  rw [List.length_append, List.length_cons, List.length_take, List.length_drop]; omega
theorem insAt_getD {α : Type} {xs : List α} {k : Nat} (x d : α) (h : k ≤ xs.length) (i : Nat) : (insAt xs k x).getD i d = if i < k then xs.getD i d else if i = k then x else xs.getD (i - 1) d := by
  have hl : (xs.take k).length = k := by rw [List.length_take]; omega
  unfold insAt
  simp only [List.getD]
  by_cases h1 : i < k
  · rw [if_pos h1, List.getElem?_append_left (by omega), List.getElem?_take_of_lt h1]
  · rw [if_neg h1, List.getElem?_append_right (by omega), hl]
    by_cases h2 : i = k
    · subst h2; rw [if_pos rfl, Nat.sub_self]; rfl
    · rw [if_neg h2, show i - k = (i - k - 1) + 1 by omega, List.getElem?_cons_succ, List.getElem?_drop, show k + (i - k - 1) = i - 1 by omega]
theorem insAt_perm {α : Type} (xs : List α) (k : Nat) (x : α) : (insAt xs k x).Perm (x :: xs) := by
  unfold insAt
  refine List.perm_middle.trans ?_
  rw [List.take_append_drop]
theorem insAt_zero {α : Type} (xs : List α) (x : α) : insAt xs 0 x = x :: xs := rfl
theorem insAt_mem {α : Type} {xs : List α} {k : Nat} {x y : α} : y ∈ insAt xs k x ↔ y = x ∨ y ∈ xs := by
  rw [(insAt_perm xs k x).mem_iff, List.mem_cons]

/-- where a list is put -/
def putK : List (List Int) → List Int → Nat
  | [], _ => 0
  | q :: ls, p => if lessL q p < 0 then putK ls p + 1 else 0
def putSL (ls : List (List Int)) (p : List Int) : List (List Int) := insAt ls (putK ls p) p
theorem putK_le : ∀ (ls : List (List Int)) (p : List Int), putK ls p ≤ ls.length
  | [], _ => Nat.le_refl _
  | q :: ls, p => by
    have := putK_le ls p
    unfold putK
    split
    · simp only [List.length_cons]; omega
    · omega
theorem putK_before : ∀ (ls : List (List Int)) (p : List Int) (j : Nat), j < putK ls p → lessL (ls.getD j []) p < 0
  | [], _, j, h => by simp [putK] at h
  | q :: ls, p, j, h => by
    unfold putK at h
    by_cases e : lessL q p < 0
    · rw [if_pos e] at h
      cases j with
      | zero => exact e
      | succ j => exact putK_before ls p j (by omega)
    · rw [if_neg e] at h; omega
theorem putK_there : ∀ (ls : List (List Int)) (p : List Int), putK ls p < ls.length → 0 ≤ lessL (ls.getD (putK ls p) []) p
  | [], _, h => by simp [putK] at h
  | q :: ls, p, h => by
    unfold putK at h ⊢
    by_cases e : lessL q p < 0
    · rw [if_pos e] at h ⊢
      exact putK_there ls p (by simpa using h)
    · rw [if_neg e]
      show 0 ≤ lessL q p
      omega
theorem putK_of {ls : List (List Int)} {p : List Int} {k : Nat} (h1 : k ≤ ls.length) (h2 : ∀ j, j < k → lessL (ls.getD j []) p < 0) (h3 : k = ls.length ∨ 0 ≤ lessL (ls.getD k []) p) : putK ls p = k := by
  have a := putK_le ls p
  rcases Nat.lt_trichotomy (putK ls p) k with h | h | h
  · have b := putK_there ls p (by omega)
    have c := h2 _ h
    omega
  · exact h
  · have b := putK_before ls p k h
    rcases h3 with h3 | h3 <;> omega
theorem putK_zero {ls : List (List Int)} {p : List Int} (h : ls.length = 0 ∨ 0 ≤ lessL (ls.getD 0 []) p) : putK ls p = 0 := putK_of (by omega) (fun j hj => by omega) (h.imp (fun h => h.symm) id)
theorem putSL_length (ls : List (List Int)) (p : List Int) : (putSL ls p).length = ls.length + 1 := insAt_length _ _ _
theorem putSL_perm (ls : List (List Int)) (p : List Int) : (putSL ls p).Perm (p :: ls) := insAt_perm _ _ _

/-- the order of lists, as three signs -/
def cmpL : List Int → List Int → Int
  | [], [] => 0
  | [], _ :: _ => -1
  | _ :: _, [] => 1
  | x :: a, y :: b => if x < y then -1 else if y < x then 1 else cmpL a b
theorem cmpL_less : ∀ (a b : List Int), cmpL a b < 0 ↔ lessL a b < 0
  | [], [] => by simp [cmpL, lessL]
  | [], _ :: _ => by simp [cmpL, lessL]; try omega
  | _ :: _, [] => by simp [cmpL, lessL]
  | x :: a, y :: b => by
    unfold cmpL lessL
    by_cases h1 : x < y
    · rw [if_pos h1, if_neg (by omega)]; omega
    · rw [if_neg h1]
      by_cases h2 : y < x
      · rw [if_pos h2, if_neg (by omega)]; omega
      · rw [if_neg h2, if_pos (by omega)]
        exact cmpL_less a b
def ltL (a b : List Int) : Bool := decide (cmpL a b < 0)
theorem ltL_cons (x y : Int) (a b : List Int) : ltL (x :: a) (y :: b) = (decide (x < y) || (decide (x = y) && ltL a b)) := by
  unfold ltL
  rw [cmpL]
  by_cases h1 : x < y
  · rw [if_pos h1]; simp [h1]
  · rw [if_neg h1]
    by_cases h2 : y < x
    · rw [if_pos h2]; simp [h1]; omega
    · rw [if_neg h2]
      obtain rfl : x = y := by omega
      simp
theorem ltL_irrefl : ∀ a : List Int, ltL a a = false
  | [] => rfl
  | x :: a => by rw [ltL_cons, ltL_irrefl a]; simp
theorem ltL_trans : ∀ a b c : List Int, ltL a b = true → ltL b c = true → ltL a c = true
  | [], [], c, h1, _ => by simp [ltL, cmpL] at h1
  | [], y :: b, [], _, h2 => by simp [ltL, cmpL] at h2
  | [], y :: b, z :: c, _, _ => rfl
  | x :: a, [], c, h1, _ => by simp [ltL, cmpL] at h1
  | x :: a, y :: b, [], _, h2 => by simp [ltL, cmpL] at h2
  | x :: a, y :: b, z :: c, h1, h2 => by
    have ih := ltL_trans a b c
    rw [ltL_cons] at *
    simp only [Bool.or_eq_true, Bool.and_eq_true, decide_eq_true_eq] at *
    rcases h1 with h1 | ⟨h1, h1'⟩
    · rcases h2 with h2 | ⟨h2, _⟩
      · left; omega
      · left; omega
    · rcases h2 with h2 | ⟨h2, h2'⟩
      · left; omega
      · right; exact ⟨by omega, ih h1' h2'⟩
theorem ltL_ntrans : ∀ a b c : List Int, ltL a b = false → ltL b c = false → ltL a c = false
  | [], [], c, _, h => h
  | [], y :: b, c, h1, _ => by simp [ltL, cmpL] at h1
  | x :: a, [], [], _, _ => rfl
  | x :: a, [], z :: c, _, h2 => by simp [ltL, cmpL] at h2
  | x :: a, y :: b, [], _, _ => rfl
  | x :: a, y :: b, z :: c, h1, h2 => by
    have ih := ltL_ntrans a b c
    rw [ltL_cons] at *
    simp only [Bool.or_eq_false_iff, Bool.and_eq_false_iff, decide_eq_false_iff_not] at *
    obtain ⟨h1, h1'⟩ := h1
    obtain ⟨h2, h2'⟩ := h2
    refine ⟨by omega, ?_⟩
    by_cases e : x = z
    · right
      exact ih (h1'.resolve_left (by omega)) (h2'.resolve_left (by omega))
    · exact .inl e
theorem ltL_total : ∀ a b : List Int, ltL a b = false → ltL b a = false → a = b
  | [], [], _, _ => rfl
  | [], y :: b, h1, _ => by simp [ltL, cmpL] at h1
  | x :: a, [], _, h2 => by simp [ltL, cmpL] at h2
  | x :: a, y :: b, h1, h2 => by
    have ih := ltL_total a b
    rw [ltL_cons] at *
    simp only [Bool.or_eq_false_iff, Bool.and_eq_false_iff, decide_eq_false_iff_not] at *
    obtain ⟨h1, h1'⟩ := h1
    obtain ⟨h2, h2'⟩ := h2
    obtain rfl : x = y := by omega
    rw [ih (h1'.resolve_left (by omega)) (h2'.resolve_left (by omega))]
/-- in order -/
def srtL (ls : List (List Int)) : Prop := ls.Pairwise fun a b => ltL b a = false
theorem srtL_nil : srtL [] := List.Pairwise.nil
theorem ltL_asymm {a b : List Int} (h : ltL a b = true) : ltL b a = false := by
  cases e : ltL b a with
  | false => rfl
  | true => have := ltL_trans a b a h e; rw [ltL_irrefl] at this; cases this
theorem putSL_cons (q : List Int) (ls : List (List Int)) (p : List Int) : putSL (q :: ls) p = if ltL q p then q :: putSL ls p else p :: q :: ls := by
  unfold putSL ltL
  rw [putK]
  have := cmpL_less q p
  by_cases h : lessL q p < 0
  · rw [if_pos h, if_pos (by simpa using this.2 h)]; rfl
  · rw [if_neg h, if_neg (by simpa using fun h' => h (this.1 h'))]; rfl
theorem srtL_put : ∀ (ls : List (List Int)) (p : List Int), srtL ls → srtL (putSL ls p)
  | [], p, _ => List.pairwise_singleton _ _
  | q :: ls, p, h => by
    unfold srtL at h
    rw [List.pairwise_cons] at h
    rw [putSL_cons]
    by_cases e : ltL q p = true
    · rw [if_pos e]
      unfold srtL
      rw [List.pairwise_cons]
      refine ⟨fun b hb => ?_, srtL_put ls p h.2⟩
      rw [(putSL_perm ls p).mem_iff, List.mem_cons] at hb
      rcases hb with rfl | hb
      · exact ltL_asymm e
      · exact h.1 b hb
    · rw [if_neg e]
      have e' : ltL q p = false := by simpa using e
      unfold srtL
      rw [List.pairwise_cons, List.pairwise_cons]
      refine ⟨fun b hb => ?_, h⟩
      rcases List.mem_cons.1 hb with rfl | hb
      · exact e'
      · exact ltL_ntrans _ _ _ (h.1 b hb) e'
def putAll (ls : List (List Int)) : List (List Int) := ls.foldl putSL []
theorem foldl_put : ∀ (ls acc : List (List Int)), srtL acc → srtL (ls.foldl putSL acc) ∧ (ls.foldl putSL acc).Perm (acc ++ ls)
  | [], acc, h => ⟨h, by simp⟩
  | p :: ls, acc, h => by
    obtain ⟨a, b⟩ := foldl_put ls (putSL acc p) (srtL_put acc p h)
    refine ⟨a, b.trans ?_⟩
    have h1 : (putSL acc p ++ ls).Perm ((p :: acc) ++ ls) := (putSL_perm acc p).append_right ls
    have h2 : (acc ++ p :: ls).Perm (p :: (acc ++ ls)) := List.perm_middle
    exact h1.trans h2.symm
/-- there is one list in order -/
theorem srtL_unique {a b : List (List Int)} (ha : srtL a) (hb : srtL b) (hp : a.Perm b) : a = b :=
  List.Perm.eq_of_pairwise (le := fun x y => ltL y x = false) (fun x y _ _ h1 h2 => ltL_total x y h2 h1) ha hb hp
theorem putAll_eq {ls a : List (List Int)} (ha : srtL a) (hp : a.Perm ls) : putAll ls = a := by
  obtain ⟨h1, h2⟩ := foldl_put ls [] srtL_nil
  exact srtL_unique h1 ha (h2.trans (by simpa using hp.symm))
theorem putAll_length (ls : List (List Int)) : (putAll ls).length = ls.length := by
  have := (foldl_put ls [] srtL_nil).2.length_eq
  simpa [putAll] using this
theorem putAll_snoc (ls : List (List Int)) (p : List Int) : putAll (ls ++ [p]) = putSL (putAll ls) p := by
  unfold putAll
  rw [List.foldl_append]
  rfl
theorem putAll_mem {ls : List (List Int)} {r : List Int} : r ∈ putAll ls ↔ r ∈ ls := by
  have := (foldl_put ls [] srtL_nil).2.mem_iff (a := r)
  simpa [putAll] using this
end Go.Proofs.Ytogjclmmjdhfeac
