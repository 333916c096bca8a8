/- Plain mathematics of arch systems: two ways to tell that a list is one agree. -/
import Derived.KernelRfl
namespace Go.Proofs.Ytogjclmmjdhfeac
set_option linter.unusedSimpArgs false
set_option linter.unusedVariables false

def inB (n lo hi : Int) : Bool := decide (lo ≤ n ∧ n ≤ hi)
theorem inB_yes {n lo hi : Int} (h1 : lo ≤ n) (h2 : n ≤ hi) : inB n lo hi = true := by simp [inB, h1, h2]
theorem inB_no {n lo hi : Int} (h : ¬ (lo ≤ n ∧ n ≤ hi)) : inB n lo hi = false := by simp only [inB, decide_eq_false_iff_not]; exact h
theorem inB_iff {n lo hi : Int} : inB n lo hi = true ↔ lo ≤ n ∧ n ≤ hi := by simp [inB]

/-- f holds at k, k + 1, .., k + m - 1 -/
def allFrom (f : Nat → Bool) (k : Nat) : Nat → Bool
  | 0 => true
  | m + 1 => f k && allFrom f (k + 1) m

theorem allFrom_iff (f : Nat → Bool) : ∀ (m k : Nat), allFrom f k m = true ↔ ∀ i, k ≤ i → i < k + m → f i = true
  | 0, k => by simp [allFrom]; omega
  | m + 1, k => by
    rw [allFrom, Bool.and_eq_true, allFrom_iff f m (k + 1)]
    constructor
    · rintro ⟨h1, h2⟩ i hi hj
      by_cases e : i = k
      · rw [e]; exact h1
      · exact h2 i (by omega) (by omega)
    · intro h
      exact ⟨h k (by omega) (by omega), fun i hi hj => h i (by omega) (by omega)⟩

/-- the stack's way, over partners -/
def stackRun (m : Nat → Nat) : Nat → Nat → List Nat → Bool
  | 0, _, _ => true
  | f + 1, k, st =>
    if k < m k ∧ m (m k) = k then stackRun m f (k + 1) (k :: st)
    else if m k < k ∧ st.head? = some (m k) then stackRun m f (k + 1) st.tail else false

theorem stackRun_down (m : Nat → Nat) : ∀ (f k : Nat) (st : List Nat), stackRun m f k st = true → ∀ x, k ≤ x → x < k + f → m x < x → m x ∈ st ∨ k ≤ m x
  | 0, k, st, _ => by intro x h1 h2; omega
  | f + 1, k, st, h => by
    intro x h1 h2 h3
    rw [stackRun] at h
    by_cases hp : k < m k ∧ m (m k) = k
    · rw [if_pos hp] at h
      by_cases e : x = k
      · subst e; omega
      · rcases stackRun_down m f (k + 1) (k :: st) h x (by omega) (by omega) h3 with h4 | h4
        · rcases List.mem_cons.1 h4 with h5 | h5
          · exact .inr (by omega)
          · exact .inl h5
        · exact .inr (by omega)
    · rw [if_neg hp] at h
      cases st with
      | nil => simp at h
      | cons t st' =>
        simp only [List.head?_cons, List.tail_cons, Option.some.injEq] at h
        by_cases hq : m k < k ∧ t = m k
        · rw [if_pos hq] at h
          by_cases e : x = k
          · subst e; exact .inl (by rw [← hq.2]; exact List.mem_cons_self)
          · rcases stackRun_down m f (k + 1) st' h x (by omega) (by omega) h3 with h4 | h4
            · exact .inl (List.mem_cons_of_mem _ h4)
            · exact .inr (by omega)
        · rw [if_neg hq] at h; cases h

def PairedN (m : Nat → Nat) (n : Nat) : Prop := ∀ i, i < n → m i < n ∧ m i ≠ i ∧ m (m i) = i
def NoCrossN (m : Nat → Nat) (n : Nat) : Prop := ∀ i k, i < n → i < k → k < m i → m k ≤ m i

theorem stackRun_sound (m : Nat → Nat) (n : Nat) (hr : ∀ i, i < n → m i < n) : ∀ (f k : Nat) (st : List Nat), k + f = n → stackRun m f k st = true →
    st.Pairwise (· > ·) → (∀ t ∈ st, t < k ∧ k ≤ m t ∧ m (m t) = t) → (∀ i, i < k → i ∉ st → m i < k ∧ m i ≠ i ∧ m (m i) = i) →
    (∀ i j, i < j → j < m i → m i < k → i < k → m j ≤ m i) → PairedN m n ∧ NoCrossN m n
  | 0, k, st, hk, _, hs, hst, hdone, hnc => by
    obtain rfl : k = n := by omega
    have he : st = [] := by
      cases st with
      | nil => rfl
      | cons t st' =>
        have := hst t List.mem_cons_self
        have := hr t this.1
        omega
    subst he
    exact ⟨fun i hi => hdone i hi (by simp), fun i j hi hij hj => hnc i j hij hj (hr i hi) hi⟩
  | f + 1, k, st, hk, h, hs, hst, hdone, hnc => by
    have hrun := h
    rw [stackRun] at h
    by_cases hp : k < m k ∧ m (m k) = k
    · rw [if_pos hp] at h
      refine stackRun_sound m n hr f (k + 1) (k :: st) (by omega) h ?_ ?_ ?_ ?_
      · exact List.pairwise_cons.2 ⟨fun t ht => (hst t ht).1, hs⟩
      · intro t ht
        rcases List.mem_cons.1 ht with rfl | ht
        · exact ⟨by omega, hp.1, hp.2⟩
        · have h1 := hst t ht
          refine ⟨by omega, ?_, h1.2.2⟩
          rcases Nat.lt_or_ge k (m t) with h2 | h2
          · exact h2
          · have e : m t = k := by omega
            have := h1.2.2
            rw [e] at this
            omega
      · intro i hi hni
        simp only [List.mem_cons, not_or] at hni
        have h1 := hdone i (by omega) hni.2
        exact ⟨by omega, h1.2⟩
      · intro i j hij hj hik hi
        by_cases e : m i = k
        · by_cases hmem : i ∈ st
          · have h1 := hst i hmem
            have := h1.2.2; rw [e] at this; omega
          · by_cases e2 : i = k
            · subst e2; omega
            · have := hdone i (by omega) hmem; omega
        · by_cases e2 : i = k
          · subst e2; omega
          · exact hnc i j hij hj (by omega) (by omega)
    · rw [if_neg hp] at h
      cases st with
      | nil => simp at h
      | cons t st' =>
        simp only [List.head?_cons, List.tail_cons, Option.some.injEq] at h
        by_cases hq : m k < k ∧ t = m k
        · rw [if_pos hq] at h
          have ht := hst t List.mem_cons_self
          have hsc := List.pairwise_cons.1 hs
          have htn : t ∉ st' := fun hm => by have := hsc.1 t hm; omega
          have hmt : m t = k := by
            rcases Nat.lt_or_ge k (m t) with h2 | h2
            · have := stackRun_down m f (k + 1) st' h (m t) (by omega) (by have := hr t (by omega); omega) (by rw [ht.2.2]; omega)
              rw [ht.2.2] at this
              rcases this with h3 | h3
              · exact absurd h3 htn
              · omega
            · omega
          refine stackRun_sound m n hr f (k + 1) st' (by omega) h hsc.2 ?_ ?_ ?_
          · intro u hu
            have h1 := hst u (List.mem_cons_of_mem _ hu)
            refine ⟨by omega, ?_, h1.2.2⟩
            rcases Nat.lt_or_ge k (m u) with h2 | h2
            · exact h2
            · have e : m u = k := by omega
              have h3 := h1.2.2
              rw [e] at h3
              have : u = t := by omega
              subst this
              exact absurd hu htn
          · intro i hi hni
            by_cases e : i = k
            · subst e
              refine ⟨by omega, by omega, ?_⟩
              rw [← hq.2]; exact hmt
            · by_cases e2 : i = t
              · subst e2
                exact ⟨by omega, by omega, ht.2.2⟩
              · have h1 := hdone i (by omega) (by simp only [List.mem_cons, not_or]; exact ⟨e2, hni⟩)
                exact ⟨by omega, h1.2⟩
          · intro i j hij hj hik hi
            by_cases e : m i = k
            · have hit : i = t := by
                by_cases e2 : i = k
                · subst e2; omega
                · by_cases hmem : i ∈ t :: st'
                  · have h1 := (hst i hmem).2.2
                    rw [e] at h1; omega
                  · have := hdone i (by omega) hmem; omega
              subst hit
              by_cases hmem : j ∈ i :: st'
              · rcases List.mem_cons.1 hmem with h5 | h5
                · omega
                · have := hsc.1 j h5; omega
              · have := hdone j (by omega) hmem; omega
            · by_cases e2 : i = k
              · subst e2; omega
              · exact hnc i j hij hj (by omega) (by omega)
        · rw [if_neg hq] at h; cases h

theorem stackRun_complete (m : Nat → Nat) (n : Nat) (hp : PairedN m n) (hc : NoCrossN m n) : ∀ (f k : Nat) (st : List Nat), k + f = n →
    st.Pairwise (· > ·) → (∀ j, j ∈ st ↔ j < k ∧ k ≤ m j) → stackRun m f k st = true
  | 0, k, st, _, _, _ => rfl
  | f + 1, k, st, hk, hs, hst => by
    rw [stackRun]
    have hpk := hp k (by omega)
    by_cases hlt : k < m k
    · rw [if_pos ⟨hlt, hpk.2.2⟩]
      refine stackRun_complete m n hp hc f (k + 1) (k :: st) (by omega) (List.pairwise_cons.2 ⟨fun t ht => ((hst t).1 ht).1, hs⟩) ?_
      intro j
      rw [List.mem_cons, hst]
      constructor
      · rintro (rfl | ⟨h1, h2⟩)
        · omega
        · refine ⟨by omega, ?_⟩
          rcases Nat.lt_or_ge k (m j) with h3 | h3
          · exact h3
          · have e : m j = k := by omega
            have := (hp j (by omega)).2.2
            rw [e] at this; omega
      · rintro ⟨h1, h2⟩
        by_cases e : j = k
        · exact .inl e
        · exact .inr ⟨by omega, by omega⟩
    · rw [if_neg (fun h => hlt h.1)]
      have hmk : m k < k := by omega
      have hmem : m k ∈ st := (hst _).2 ⟨hmk, by rw [hpk.2.2]; exact Nat.le_refl _⟩
      cases st with
      | nil => simp at hmem
      | cons t st' =>
        simp only [List.head?_cons, List.tail_cons, Option.some.injEq]
        have hsc := List.pairwise_cons.1 hs
        have ht := (hst t).1 List.mem_cons_self
        have e : t = m k := by
          rcases List.mem_cons.1 hmem with h1 | h1
          · exact h1.symm
          · exfalso
            have h2 := hsc.1 _ h1
            have h3 := hc (m k) t (by omega) h2 (by rw [hpk.2.2]; exact ht.1)
            rw [hpk.2.2] at h3
            have h4 : m t = k := by omega
            have := (hp t (by omega)).2.2
            rw [h4] at this; omega
        rw [if_pos ⟨hmk, e⟩]
        refine stackRun_complete m n hp hc f (k + 1) st' (by omega) hsc.2 ?_
        intro j
        constructor
        · intro hj
          have h1 := (hst j).1 (List.mem_cons_of_mem _ hj)
          have h2 := hsc.1 j hj
          refine ⟨by omega, ?_⟩
          rcases Nat.lt_or_ge k (m j) with h3 | h3
          · exact h3
          · have e2 : m j = k := by omega
            have := (hp j (by omega)).2.2
            rw [e2] at this; omega
        · rintro ⟨h1, h2⟩
          have hjk : j ≠ k := by intro e2; subst e2; omega
          rcases List.mem_cons.1 ((hst j).2 ⟨by omega, by omega⟩) with h3 | h3
          · subst h3
            rw [e, hpk.2.2] at h2; omega
          · exact h3

theorem stackRun_iff (m : Nat → Nat) (n : Nat) (hr : ∀ i, i < n → m i < n) : stackRun m n 0 [] = true ↔ PairedN m n ∧ NoCrossN m n :=
  ⟨fun h => stackRun_sound m n hr n 0 [] (by omega) h .nil (by simp) (by omega) (by omega),
   fun h => stackRun_complete m n h.1 h.2 n 0 [] (by omega) .nil (by simp)⟩

theorem allFrom_yes {f : Nat → Bool} {k m : Nat} {R : Bool} (h : allFrom f k (m + 1) = R) (hf : f k = true) : allFrom f (k + 1) m = R := by
  rw [allFrom, hf, Bool.true_and] at h; exact h
theorem allFrom_no {f : Nat → Bool} {k m : Nat} {R : Bool} (h : allFrom f k (m + 1) = R) (hf : f k = false) : R = false := by
  rw [allFrom, hf, Bool.false_and] at h; exact h.symm

/-! ### systems -/
def par (l : List Int) (i : Nat) : Nat := (l.getD i 0).toNat
def rangeB (l : List Int) : Bool := allFrom (fun i => inB (l.getD i 0) 0 ((l.length : Int) - 1)) 0 l.length
def goodB (l : List Int) : Bool := decide (l.length % 2 = 0) && decide (l.length ≤ 12) && rangeB l && stackRun (par l) l.length 0 []
def pairB (l : List Int) (i : Nat) : Bool := decide (0 ≤ l.getD i 0) && decide (l.getD i 0 < (l.length : Int)) && decide (l.getD i 0 ≠ (i : Int)) && decide (l.getD (par l i) 0 = (i : Int))
def pairedB (l : List Int) : Bool := allFrom (pairB l) 0 l.length
def freeB (l : List Int) (i : Nat) : Bool := allFrom (fun k => decide (l.getD k 0 ≤ l.getD i 0)) (i + 1) (par l i - (i + 1))
def noCrossB (l : List Int) : Bool := allFrom (freeB l) 0 l.length

theorem par_int {l : List Int} {i : Nat} (h : 0 ≤ l.getD i 0) : (par l i : Int) = l.getD i 0 := by unfold par; omega

theorem pairedB_iff (l : List Int) : pairedB l = true ↔ rangeB l = true ∧ PairedN (par l) l.length := by
  unfold pairedB rangeB PairedN
  rw [allFrom_iff, allFrom_iff]
  constructor
  · intro h
    refine ⟨fun i h1 h2 => ?_, fun i hi => ?_⟩
    · have := h i h1 h2
      simp only [pairB, Bool.and_eq_true, decide_eq_true_eq] at this
      exact inB_iff.2 ⟨this.1.1.1, by omega⟩
    · have := h i (by omega) (by omega)
      simp only [pairB, Bool.and_eq_true, decide_eq_true_eq] at this
      have e := par_int this.1.1.1
      refine ⟨by omega, fun he => this.1.2 (by omega), ?_⟩
      show (l.getD (par l i) 0).toNat = i
      rw [this.2]; omega
  · rintro ⟨hr, hp⟩ i h1 h2
    have h3 := inB_iff.1 (hr i h1 h2)
    have h4 := hp i (by omega)
    have e := par_int h3.1
    have h5 := inB_iff.1 (hr (par l i) (by omega) (by omega))
    have e2 := par_int h5.1
    simp only [pairB, Bool.and_eq_true, decide_eq_true_eq]
    refine ⟨⟨⟨h3.1, by omega⟩, fun he => h4.2.1 (by omega)⟩, ?_⟩
    rw [← e2, h4.2.2]

theorem noCrossB_iff (l : List Int) (hp : rangeB l = true) : noCrossB l = true ↔ NoCrossN (par l) l.length := by
  unfold rangeB at hp
  rw [allFrom_iff] at hp
  unfold noCrossB NoCrossN
  rw [allFrom_iff]
  constructor
  · intro h i k hi hik hk
    have h1 := h i (by omega) (by omega)
    unfold freeB at h1
    rw [allFrom_iff] at h1
    have h2 := inB_iff.1 (hp i (by omega) (by omega))
    have e2 := par_int h2.1
    have h3 := h1 k (by omega) (by omega)
    rw [decide_eq_true_eq] at h3
    have h4 := inB_iff.1 (hp k (by omega) (by omega))
    have e4 := par_int h4.1
    omega
  · intro h i h1 h2
    unfold freeB
    rw [allFrom_iff]
    intro k hk1 hk2
    have h3 := h i k (by omega) (by omega) (by omega)
    have h2' := inB_iff.1 (hp i (by omega) (by omega))
    have e2 := par_int h2'.1
    have h4 := inB_iff.1 (hp k (by omega) (by omega))
    have e4 := par_int h4.1
    rw [decide_eq_true_eq]
    omega

/-- both ways to tell a system -/
theorem goodB_eq (l : List Int) : goodB l = (decide (l.length % 2 = 0) && decide (l.length ≤ 12) && pairedB l && noCrossB l) := by
  unfold goodB
  generalize (decide (l.length % 2 = 0) && decide (l.length ≤ 12)) = c
  cases c
  · simp
  · simp only [Bool.true_and]
    rw [Bool.eq_iff_iff, Bool.and_eq_true, Bool.and_eq_true, pairedB_iff]
    constructor
    · rintro ⟨h1, h2⟩
      have hr : ∀ i, i < l.length → par l i < l.length := by
        intro i hi
        have := inB_iff.1 ((allFrom_iff _ _ _).1 h1 i (by omega) (by omega))
        have e := par_int this.1
        omega
      have := (stackRun_iff (par l) l.length hr).1 h2
      exact ⟨⟨h1, this.1⟩, (noCrossB_iff l h1).2 this.2⟩
    · rintro ⟨⟨h1, h2⟩, h3⟩
      have hr : ∀ i, i < l.length → par l i < l.length := fun i hi => (h2 i hi).1
      exact ⟨h1, (stackRun_iff (par l) l.length hr).2 ⟨h2, (noCrossB_iff l h1).1 h3⟩⟩

/-- what a system is good for -/
theorem good_facts {l : List Int} (h : goodB l = true) : l.length % 2 = 0 ∧ l.length ≤ 12 ∧ (∀ i, i < l.length → 0 ≤ l.getD i 0 ∧ l.getD i 0 < l.length ∧ l.getD i 0 ≠ i ∧ l.getD (l.getD i 0).toNat 0 = i) ∧ NoCrossN (par l) l.length := by
  have h0 := h
  rw [goodB_eq] at h
  simp only [Bool.and_eq_true, decide_eq_true_eq] at h
  refine ⟨h.1.1.1, h.1.1.2, fun i hi => ?_, (noCrossB_iff l ((pairedB_iff l).1 h.1.2).1).1 h.2⟩
  have := (allFrom_iff _ _ _).1 h.1.2 i (by omega) (by omega)
  simp only [pairB, Bool.and_eq_true, decide_eq_true_eq] at this
  exact ⟨this.1.1.1, this.1.1.2, this.1.2, this.2⟩

theorem good_len' {l : List Int} (h : goodB l = true) : l.length ≤ 12 := (good_facts h).2.1

/-! ### points of a system that are chosen -/
def beginsB (l : List Int) (i : Int) : Bool := decide (i < l.getD i.toNat 0)
def isSmallB (l : List Int) (i : Int) : Bool := decide (l.getD i.toNat 0 = i + 1)
/-- how many of the first k points are joined with one behind i -/
def overN (l : List Int) (i : Int) : Nat → Nat
  | 0 => 0
  | k + 1 => overN l i k + if i < l.getD k 0 then 1 else 0
theorem overN_le (l : List Int) (i : Int) : ∀ k, overN l i k ≤ k
  | 0 => Nat.le_refl _
  | k + 1 => by have := overN_le l i k; unfold overN; split <;> omega
def isOuterB (l : List Int) (i : Int) : Bool := beginsB l i && decide (overN l i i.toNat = 0)

/-- the points among the first k that are chosen -/
def whereL (c : Int → Bool) : Nat → List Int
  | 0 => []
  | k + 1 => whereL c k ++ if c (k : Int) then [(k : Int)] else []
theorem whereL_len (c : Int → Bool) : ∀ k, (whereL c k).length ≤ k
  | 0 => Nat.le_refl _
  | k + 1 => by have := whereL_len c k; simp only [whereL, List.length_append]; split <;> simp <;> omega

end Go.Proofs.Ytogjclmmjdhfeac
