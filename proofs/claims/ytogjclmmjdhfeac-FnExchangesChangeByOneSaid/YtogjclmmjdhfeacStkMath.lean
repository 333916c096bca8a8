/- Stacks of stamps, plain mathematics: each stamp once; joints that cross. -/
import Derived.Test.YtogjclmmjdhfeacMath
namespace Go.Proofs.Ytogjclmmjdhfeac
set_option linter.unusedSimpArgs false
set_option linter.unusedVariables false

theorem nodup_sub_len : ∀ (xs ys : List Int), xs.Nodup → (∀ x ∈ xs, x ∈ ys) → xs.length ≤ ys.length
  | [], ys, _, _ => by simp
  | x :: xs, ys, hn, hs => by
    have hx := hs x (by simp)
    rw [List.nodup_cons] at hn
    have := nodup_sub_len xs (ys.erase x) hn.2 (fun y hy => by
      have hne : y ≠ x := fun e => hn.1 (e ▸ hy)
      exact (List.mem_erase_of_ne hne).2 (hs y (by simp [hy])))
    rw [List.length_erase_of_mem hx] at this
    have hp : 0 < ys.length := List.length_pos_of_mem hx
    simp only [List.length_cons]
    omega

def upTo (n : Nat) : List Int := (List.range n).map fun (i : Nat) => (i : Int)
theorem upTo_length (n : Nat) : (upTo n).length = n := by simp [upTo]
theorem mem_upTo {n : Nat} {x : Int} : x ∈ upTo n ↔ 0 ≤ x ∧ x < n := by
  simp only [upTo, List.mem_map, List.mem_range]
  exact ⟨fun ⟨i, h, e⟩ => by omega, fun ⟨h1, h2⟩ => ⟨x.toNat, by omega, by omega⟩⟩
theorem upTo_nodup : ∀ n : Nat, (upTo n).Nodup
  | 0 => by simp [upTo]
  | n + 1 => by
    have e : upTo (n + 1) = upTo n ++ [(n : Int)] := by simp [upTo, List.range_succ]
    rw [e, List.nodup_append]
    refine ⟨upTo_nodup n, by simp, fun a ha b hb => ?_⟩
    have := mem_upTo.1 ha
    simp at hb
    omega

/-- what the program asks: each stamp is there -/
def hasAllB (l : List Int) : Bool := allFrom (fun s => decide ((s : Int) ∈ l)) 0 l.length
/-- what the model asks: all are stamps, none is there twice -/
def freshB (l : List Int) : Bool := allFrom (fun i => !decide (l.getD i 0 ∈ l.take i)) 0 l.length
def stackB (l : List Int) : Bool := decide (1 ≤ l.length) && decide (l.length ≤ 8) && hasAllB l

theorem hasAll_iff (l : List Int) : hasAllB l = true ↔ ∀ x ∈ upTo l.length, x ∈ l := by
  unfold hasAllB
  rw [allFrom_iff]
  constructor
  · intro h x hx
    have hx' := mem_upTo.1 hx
    have := h x.toNat (by omega) (by omega)
    rw [decide_eq_true_eq, Int.toNat_of_nonneg hx'.1] at this
    exact this
  · intro h i _ hi
    rw [decide_eq_true_eq]
    exact h _ (mem_upTo.2 ⟨by omega, by omega⟩)

theorem fresh_iff (l : List Int) : freshB l = true ↔ l.Nodup := by
  unfold freshB
  rw [allFrom_iff]
  simp only [Bool.not_eq_true', decide_eq_false_iff_not]
  constructor
  · intro h
    rw [List.nodup_iff_pairwise_ne, List.pairwise_iff_getElem]
    intro i j hi hj hij e
    refine h j (by omega) (by omega) ?_
    rw [show l.getD j 0 = l[j] by simp [List.getD, hj], ← e]
    exact List.mem_take_iff_getElem.2 ⟨i, by omega, rfl⟩
  · intro h j _ hj hm
    rw [List.nodup_iff_pairwise_ne, List.pairwise_iff_getElem] at h
    obtain ⟨i, hi, e⟩ := List.mem_take_iff_getElem.1 hm
    have hj' : j < l.length := by omega
    refine h i j (by omega) hj' (by omega) ?_
    rw [e]
    simp [List.getD, hj']

theorem range_iff (l : List Int) : rangeB l = true ↔ ∀ x ∈ l, x ∈ upTo l.length := by
  unfold rangeB
  rw [allFrom_iff]
  constructor
  · intro h x hx
    obtain ⟨i, hi, rfl⟩ := List.mem_iff_getElem.1 hx
    have := inB_iff.1 (h i (by omega) (by omega))
    rw [show l.getD i 0 = l[i] by simp [List.getD, hi]] at this
    exact mem_upTo.2 ⟨by omega, by omega⟩
  · intro h i _ hi
    have hi' : i < l.length := by omega
    have := mem_upTo.1 (h _ (List.getElem_mem hi'))
    rw [show l.getD i 0 = l[i] by simp [List.getD, hi']]
    exact inB_yes (by omega) (by omega)

theorem hasAll_eq (l : List Int) : hasAllB l = (rangeB l && freshB l) := by
  rw [Bool.eq_iff_iff, Bool.and_eq_true, hasAll_iff, range_iff, fresh_iff]
  constructor
  · intro h
    constructor
    · intro x hx
      by_cases hm : x ∈ upTo l.length
      · exact hm
      · exfalso
        have := nodup_sub_len (upTo l.length) (l.erase x) (upTo_nodup _) (fun y hy => (List.mem_erase_of_ne (fun e => hm (by rw [← e]; exact hy))).2 (h y hy))
        rw [upTo_length, List.length_erase_of_mem hx] at this
        have := List.length_pos_of_mem hx
        omega
    · rw [List.nodup_iff_pairwise_ne, List.pairwise_iff_getElem]
      intro i j hi hj hij e
      have := nodup_sub_len (upTo l.length) (l.eraseIdx j) (upTo_nodup _) (fun y hy => by
        obtain ⟨k, hk, rfl⟩ := List.mem_iff_getElem.1 (h y hy)
        by_cases hkj : k = j
        · subst hkj
          rw [← e]
          exact List.mem_eraseIdx_iff_getElem.2 ⟨i, hi, by omega, rfl⟩
        · exact List.mem_eraseIdx_iff_getElem.2 ⟨k, hk, by omega, rfl⟩)
      rw [upTo_length, List.length_eraseIdx_of_lt hj] at this
      omega
  · rintro ⟨hr, hn⟩ x hx
    by_cases hm : x ∈ l
    · exact hm
    · exfalso
      have := nodup_sub_len (x :: l) (upTo l.length) (by rw [List.nodup_cons]; exact ⟨hm, hn⟩) (fun y hy => by
        rcases List.mem_cons.1 hy with rfl | hy
        · exact hx
        · exact hr y hy)
      rw [upTo_length, List.length_cons] at this
      omega

theorem stack_facts {l : List Int} (h : stackB l = true) : 1 ≤ l.length ∧ l.length ≤ 8 ∧ (∀ k, k < l.length → 0 ≤ l.getD k 0 ∧ l.getD k 0 < l.length) ∧ l.Nodup ∧ (∀ s : Nat, s < l.length → (s : Int) ∈ l) := by
  unfold stackB at h
  simp only [Bool.and_eq_true, decide_eq_true_eq] at h
  obtain ⟨⟨h1, h2⟩, h3⟩ := h
  have h4 := h3
  rw [hasAll_eq, Bool.and_eq_true] at h4
  refine ⟨h1, h2, fun k hk => ?_, (fresh_iff l).1 h4.2, fun s hs => (hasAll_iff l).1 h3 _ (mem_upTo.2 ⟨by omega, by omega⟩)⟩
  have := mem_upTo.1 ((range_iff l).1 h4.1 (l.getD k 0) (by rw [show l.getD k 0 = l[k] by simp [List.getD, hk]]; exact List.getElem_mem hk))
  exact this

theorem stack_len {l : List Int} (h : stackB l = true) : l.length ≤ 8 := (stack_facts h).2.1

/-- the place of a stamp -/
def plc (l : List Int) (s : Nat) : Nat := l.idxOf (s : Int)
theorem plc_lt {l : List Int} (h : stackB l = true) {s : Nat} (hs : s < l.length) : plc l s < l.length := List.idxOf_lt_length_iff.2 ((stack_facts h).2.2.2.2 s hs)
theorem plc_get {l : List Int} (h : stackB l = true) {s : Nat} (hs : s < l.length) : l.getD (plc l s) 0 = (s : Int) := by
  have hp := plc_lt h hs
  rw [show l.getD (plc l s) 0 = l[plc l s] by simp [List.getD, hp]]
  exact List.getElem_idxOf hp
theorem plc_of {l : List Int} (h : stackB l = true) {k s : Nat} (hk : k < l.length) (e : l.getD k 0 = (s : Int)) : plc l s = k := by
  have hn := (stack_facts h).2.2.2.1
  rw [show l.getD k 0 = l[k] by simp [List.getD, hk]] at e
  unfold plc
  rw [← e]
  exact hn.idxOf_getElem k hk

/-- the upper and the lower place of a joint -/
def jlo (l : List Int) (i : Nat) : Nat := min (plc l i) (plc l (i + 1))
def jhi (l : List Int) (i : Nat) : Nat := max (plc l i) (plc l (i + 1))
def crossN (a b c d : Nat) : Bool := (decide (a < c) && decide (c < b) && decide (b < d)) || (decide (c < a) && decide (a < d) && decide (d < b))
/-- do two joints cross -/
def crossB (l : List Int) (i j : Nat) : Bool := decide (i % 2 = j % 2) && crossN (jlo l i) (jhi l i) (jlo l j) (jhi l j)

/-- the pairs i, j with j from some number on, f of them -/
def crossRow (l : List Int) (i j : Nat) : Nat → List (List Int)
  | 0 => []
  | f + 1 => (if crossB l i j then [[(i : Int), (j : Int)]] else []) ++ crossRow l i (j + 1) f
/-- all pairs with i from some number on, f of them -/
def crossFrom (l : List Int) (i : Nat) : Nat → List (List Int)
  | 0 => []
  | f + 1 => crossRow l i (i + 1) (l.length - 1 - (i + 1)) ++ crossFrom l (i + 1) f
def crossed (l : List Int) : List (List Int) := crossFrom l 0 (l.length - 1)

theorem crossRow_len (l : List Int) (i : Nat) : ∀ (f j : Nat), (crossRow l i j f).length ≤ f
  | 0, _ => by simp [crossRow]
  | f + 1, j => by
    have := crossRow_len l i f (j + 1)
    simp only [crossRow, List.length_append]
    split <;> simp <;> omega
theorem crossFrom_len (l : List Int) (h : l.length ≤ 8) : ∀ (f i : Nat), (crossFrom l i f).length ≤ 8 * f
  | 0, _ => by simp [crossFrom]
  | f + 1, i => by
    have h1 := crossFrom_len l h f (i + 1)
    have h2 := crossRow_len l i (l.length - 1 - (i + 1)) (i + 1)
    simp only [crossFrom, List.length_append]
    omega
theorem crossed_len (l : List Int) (h : l.length ≤ 8) : (crossed l).length ≤ 64 := by
  have := crossFrom_len l h (l.length - 1) 0
  unfold crossed
  omega
def foldB (l : List Int) : Bool := decide ((crossed l).length = 0)

end Go.Proofs.Ytogjclmmjdhfeac
