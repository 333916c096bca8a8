/- All systems, enumerated by their texts. -/
import Derived.Test.YtogjclmmjdhfeacMath
namespace Go.Proofs.Ytogjclmmjdhfeac
set_option linter.unusedSimpArgs false
set_option linter.unusedVariables false

/-- a text read with a stack: true where an arch begins -/
def build : List Bool → Nat → List Nat → List Int → Option (List Int)
  | [], _, st, p => if st.isEmpty then some p else none
  | true :: r, k, st, p => build r (k + 1) (k :: st) p
  | false :: r, k, st, p => if st.isEmpty then none else build r (k + 1) st.tail ((p.set (st.headD 0) (k : Int)).set k (st.headD 0 : Int))

def parseB (t : List Bool) : Option (List Int) := build t 0 [] (List.replicate t.length 0)
def textB (l : List Int) : List Bool := (List.range l.length).map fun (i : Nat) => decide ((i : Int) < l.getD i 0)

theorem textB_length (l : List Int) : (textB l).length = l.length := by simp [textB]

theorem build_text (l : List Int) (hp : PairedN (par l) l.length) (hc : NoCrossN (par l) l.length) (hr : ∀ i, i < l.length → 0 ≤ l.getD i 0) :
    ∀ (f k : Nat) (st : List Nat) (p : List Int), k + f = l.length → st.Pairwise (· > ·) → (∀ j, j ∈ st ↔ j < k ∧ k ≤ par l j) → p.length = l.length → (∀ i, i < k → i ∉ st → p.getD i 0 = l.getD i 0) →
      build ((List.range' k f).map fun (i : Nat) => decide ((i : Int) < l.getD i 0)) k st p = some l
  | 0, k, st, p, hk, hs, hst, hlen, hd => by
    have he : st = [] := by
      cases st with
      | nil => rfl
      | cons t st' =>
        have h1 := (hst t).1 List.mem_cons_self
        have := (hp t (by omega)).1
        omega
    subst he
    show (if [].isEmpty then some p else none) = some l
    simp only [List.isEmpty_nil, if_true, Option.some.injEq]
    apply List.ext_getElem hlen
    intro i h1 h2
    have := hd i (by omega) (by simp)
    simpa [List.getD, h1, h2] using this
  | f + 1, k, st, p, hk, hs, hst, hlen, hd => by
    have hpk := hp k (by omega)
    have ek := par_int (hr k (by omega))
    rw [List.range'_succ, List.map_cons]
    by_cases hlt : k < par l k
    · have hb : decide ((k : Int) < l.getD k 0) = true := decide_eq_true (by omega)
      rw [hb, build]
      refine build_text l hp hc hr f (k + 1) (k :: st) p (by omega) (List.pairwise_cons.2 ⟨fun t ht => ((hst t).1 ht).1, hs⟩) ?_ hlen ?_
      · intro j
        rw [List.mem_cons, hst]
        constructor
        · rintro (rfl | ⟨h1, h2⟩)
          · omega
          · refine ⟨by omega, ?_⟩
            rcases Nat.lt_or_ge k (par l j) with h3 | h3
            · exact h3
            · have e : par l j = k := by omega
              have := (hp j (by omega)).2.2
              rw [e] at this; omega
        · rintro ⟨h1, h2⟩
          by_cases e : j = k
          · exact .inl e
          · exact .inr ⟨by omega, by omega⟩
      · intro i hi hni
        simp only [List.mem_cons, not_or] at hni
        exact hd i (by omega) hni.2
    · have hmk : par l k < k := by omega
      have hb : decide ((k : Int) < l.getD k 0) = false := decide_eq_false (by omega)
      rw [hb, build]
      have hmem : par l k ∈ st := (hst _).2 ⟨hmk, by rw [hpk.2.2]; exact Nat.le_refl _⟩
      cases st with
      | nil => simp at hmem
      | cons t st' =>
        have hsc := List.pairwise_cons.1 hs
        have ht := (hst t).1 List.mem_cons_self
        have e : t = par l k := by
          rcases List.mem_cons.1 hmem with h1 | h1
          · exact h1.symm
          · exfalso
            have h2 := hsc.1 _ h1
            have h3 := hc (par l k) t (by omega) h2 (by rw [hpk.2.2]; exact ht.1)
            rw [hpk.2.2] at h3
            have h4 : par l t = k := by omega
            have := (hp t (by omega)).2.2
            rw [h4] at this; omega
        have hmt : par l t = k := by rw [e]; exact hpk.2.2
        have et := par_int (hr t (by omega))
        simp only [List.isEmpty_cons, Bool.false_eq_true, if_false, List.tail_cons, List.headD_cons]
        refine build_text l hp hc hr f (k + 1) st' _ (by omega) hsc.2 ?_ (by simpa using hlen) ?_
        · intro j
          constructor
          · intro hj
            have h1 := (hst j).1 (List.mem_cons_of_mem _ hj)
            have h2 := hsc.1 j hj
            refine ⟨by omega, ?_⟩
            rcases Nat.lt_or_ge k (par l j) with h3 | h3
            · exact h3
            · have e2 : par l j = k := by omega
              have := (hp j (by omega)).2.2
              rw [e2] at this; omega
          · rintro ⟨h1, h2⟩
            have hjk : j ≠ k := by intro e2; subst e2; omega
            rcases List.mem_cons.1 ((hst j).2 ⟨by omega, by omega⟩) with h3 | h3
            · subst h3; omega
            · exact h3
        · intro i hi hni
          by_cases e1 : i = k
          · rw [e1, List.getD, List.getElem?_set_self (by simp; omega)]
            show (t : Int) = _
            rw [e]; exact ek
          · by_cases e2 : i = t
            · rw [e2, List.getD, List.getElem?_set_ne (by omega), List.getElem?_set_self (by omega)]
              show (k : Int) = _
              rw [← hmt]; exact et
            · rw [List.getD, List.getElem?_set_ne (by omega), List.getElem?_set_ne (by omega)]
              exact hd i (by omega) (by simp only [List.mem_cons, not_or]; exact ⟨e2, hni⟩)

theorem good_parse {l : List Int} (h : goodB l = true) : parseB (textB l) = some l := by
  have h0 := h
  rw [goodB_eq] at h
  simp only [Bool.and_eq_true] at h
  have hp := (pairedB_iff l).1 h.1.2
  have hc := (noCrossB_iff l hp.1).1 h.2
  have hr : ∀ i, i < l.length → 0 ≤ l.getD i 0 := fun i hi => ((good_facts h0).2.2.1 i hi).1
  have := build_text l hp.2 hc hr l.length 0 [] (List.replicate l.length 0) (by omega) .nil (by simp) (by simp) (by omega)
  unfold parseB
  rw [textB_length, textB, List.range_eq_range']
  exact this

def allTexts : Nat → List (List Bool)
  | 0 => [[]]
  | n + 1 => (allTexts n).flatMap fun t => [true :: t, false :: t]

theorem mem_allTexts : ∀ t : List Bool, t ∈ allTexts t.length
  | [] => by simp [allTexts]
  | b :: t => by
    simp only [List.length_cons, allTexts, List.mem_flatMap]
    exact ⟨t, mem_allTexts t, by cases b <;> simp⟩

/-- all systems of n arches -/
def sysAll (n : Nat) : List (List Int) := (allTexts (2 * n)).filterMap parseB

theorem mem_sysAll {l : List Int} (h : goodB l = true) : l ∈ sysAll (l.length / 2) := by
  have h1 := (good_facts h).1
  refine List.mem_filterMap.2 ⟨textB l, ?_, good_parse h⟩
  have := mem_allTexts (textB l)
  rw [textB_length] at this
  rw [show 2 * (l.length / 2) = l.length by omega]
  exact this

/-- what holds of each of them holds of every system -/
theorem good_all {P : List Int → Bool} (hall : ∀ n, n ≤ 6 → (sysAll n).all P = true) {l : List Int} (h : goodB l = true) : P l = true := by
  have h12 := good_len' h
  exact List.all_eq_true.1 (hall (l.length / 2) (by omega)) l (mem_sysAll h)

theorem good_all6 {P : List Int → Bool} (h0 : (sysAll 0).all P = true) (h1 : (sysAll 1).all P = true) (h2 : (sysAll 2).all P = true) (h3 : (sysAll 3).all P = true) (h4 : (sysAll 4).all P = true) (h5 : (sysAll 5).all P = true) (h6 : (sysAll 6).all P = true)
    {l : List Int} (h : goodB l = true) : P l = true := by
  refine good_all (fun n hn => ?_) h
  have : n = 0 ∨ n = 1 ∨ n = 2 ∨ n = 3 ∨ n = 4 ∨ n = 5 ∨ n = 6 := by omega
  rcases this with rfl | rfl | rfl | rfl | rfl | rfl | rfl
  · exact h0
  · exact h1
  · exact h2
  · exact h3
  · exact h4
  · exact h5
  · exact h6

end Go.Proofs.Ytogjclmmjdhfeac
