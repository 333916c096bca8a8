/- States of open arches: plain mathematics. -/
import Derived.Test.YtllhdmpnjcemkacStkMath
namespace Go.Proofs.Ytllhdmpnjcemkac
set_option linter.unusedSimpArgs false
set_option linter.unusedVariables false

/-- the parts in the order in which they come first -/
def seenL (acc : List Int) : List Int → List Int
  | [] => acc
  | x :: l => if x ∈ acc then seenL acc l else seenL (acc ++ [x]) l
/-- their numbers -/
def numL (acc : List Int) : List Int → List Int
  | [] => []
  | x :: l => if x ∈ acc then (acc.idxOf x : Int) :: numL acc l else (acc.length : Int) :: numL (acc ++ [x]) l
theorem numL_length : ∀ (l acc : List Int), (numL acc l).length = l.length
  | [], _ => rfl
  | x :: l, acc => by
    unfold numL
    split
    · rw [List.length_cons, List.length_cons, numL_length l]
    · rw [List.length_cons, List.length_cons, numL_length l]
theorem seenL_pre : ∀ (l acc : List Int), ∃ t, seenL acc l = acc ++ t
  | [], acc => ⟨[], by simp [seenL]⟩
  | x :: l, acc => by
    unfold seenL
    split
    · exact seenL_pre l acc
    · obtain ⟨t, ht⟩ := seenL_pre l (acc ++ [x])
      exact ⟨x :: t, by rw [ht]; simp⟩
theorem seenL_append : ∀ (a b acc : List Int), seenL acc (a ++ b) = seenL (seenL acc a) b
  | [], b, acc => rfl
  | x :: a, b, acc => by
    rw [List.cons_append, seenL, seenL]
    split
    · exact seenL_append a b acc
    · exact seenL_append a b _
theorem seenL_nodup : ∀ (l acc : List Int), acc.Nodup → (seenL acc l).Nodup
  | [], acc, h => h
  | x :: l, acc, h => by
    unfold seenL
    split
    · exact seenL_nodup l acc h
    · next hx =>
      refine seenL_nodup l _ ?_
      rw [List.nodup_append]
      exact ⟨h, by simp, fun a ha b hb e => by simp at hb; subst hb; subst e; exact hx ha⟩
theorem seenL_mem : ∀ (l acc : List Int) (x : Int), x ∈ seenL acc l ↔ x ∈ acc ∨ x ∈ l
  | [], acc, x => by simp [seenL]
  | y :: l, acc, x => by
    unfold seenL
    split
    · next hy =>
      rw [seenL_mem l acc x, List.mem_cons]
      exact ⟨fun h => h.elim .inl (fun h => .inr (.inr h)), fun h => h.elim .inl (fun h => h.elim (fun e => .inl (e ▸ hy)) .inr)⟩
    · rw [seenL_mem l _ x, List.mem_append, List.mem_singleton, List.mem_cons]
      constructor
      · rintro ((h | h) | h)
        · exact .inl h
        · exact .inr (.inl h)
        · exact .inr (.inr h)
      · rintro (h | h | h)
        · exact .inl (.inl h)
        · exact .inl (.inr h)
        · exact .inr h
theorem seenL_length : ∀ (l acc : List Int), (seenL acc l).length ≤ acc.length + l.length
  | [], acc => by simp [seenL]
  | x :: l, acc => by
    unfold seenL
    split
    · have := seenL_length l acc; simp only [List.length_cons]; omega
    · have := seenL_length l (acc ++ [x]); simp only [List.length_append, List.length_cons, List.length_nil] at this ⊢; omega
theorem idx_pre {x : Int} {acc t : List Int} (h : x ∈ acc) : (acc ++ t).idxOf x = acc.idxOf x := by rw [List.idxOf_append, if_pos h]
theorem numL_map : ∀ (l acc S : List Int), (∃ t, S = seenL acc l ++ t) → numL acc l = l.map fun x => (S.idxOf x : Int)
  | [], _, _, _ => rfl
  | x :: l, acc, S, h => by
    obtain ⟨t, ht⟩ := h
    unfold numL
    unfold seenL at ht
    by_cases hx : x ∈ acc
    · rw [if_pos hx] at ht ⊢
      rw [List.map_cons, numL_map l acc S ⟨t, ht⟩]
      congr 1
      obtain ⟨t2, h2⟩ := seenL_pre l acc
      rw [ht, h2, List.append_assoc, idx_pre hx]
    · rw [if_neg hx] at ht ⊢
      rw [List.map_cons, numL_map l _ S ⟨t, ht⟩]
      congr 1
      obtain ⟨t2, h2⟩ := seenL_pre l (acc ++ [x])
      rw [ht, h2, List.append_assoc, List.append_assoc, List.idxOf_append, if_neg hx]
      simp
/-- the numbers of the open ends above and of those below -/
def renU (u : List Int) : List Int := numL [] u
def renD (u d : List Int) : List Int := numL (seenL [] u) d
theorem renU_map (u d : List Int) : renU u = u.map fun x => ((seenL [] (u ++ d)).idxOf x : Int) := by
  refine numL_map u [] _ ?_
  rw [seenL_append]
  exact seenL_pre d _
theorem renD_map (u d : List Int) : renD u d = d.map fun x => ((seenL [] (u ++ d)).idxOf x : Int) := by
  refine numL_map d _ _ ⟨[], ?_⟩
  rw [seenL_append, List.append_nil]
theorem renU_length (u : List Int) : (renU u).length = u.length := numL_length _ _
theorem renD_length (u d : List Int) : (renD u d).length = d.length := numL_length _ _
theorem ren_bd (u d : List Int) : ∀ x ∈ renU u ++ renD u d, 0 ≤ x ∧ x < ((seenL [] (u ++ d)).length : Int) := by
  intro x hx
  rw [renU_map u d, renD_map u d, ← List.map_append, List.mem_map] at hx
  obtain ⟨y, hy, rfl⟩ := hx
  have : y ∈ seenL [] (u ++ d) := (seenL_mem _ _ _).2 (.inr hy)
  have := List.idxOf_lt_length_iff.2 this
  omega

def roundL (u d : List Int) : List Int := u ++ d.reverse
/-- the program's way: each part twice, and all can be taken out -/
def twiceB (r : List Int) : Bool := allFrom (fun i => decide (r.count (r.getD i 0) = 2)) 0 r.length
theorem twice_iff (r : List Int) : twiceB r = true ↔ ∀ x ∈ r, r.count x = 2 := by
  unfold twiceB
  rw [allFrom_iff]
  constructor
  · intro h x hx
    obtain ⟨i, hi, rfl⟩ := List.mem_iff_getElem.1 hx
    have := h i (by omega) (by omega)
    rw [decide_eq_true_eq, show r.getD i 0 = r[i] by simp [List.getD, hi]] at this
    exact this
  · intro h i _ hi
    rw [decide_eq_true_eq]
    have hi' : i < r.length := by omega
    rw [show r.getD i 0 = r[i] by simp [List.getD, hi']]
    exact h _ (List.getElem_mem hi')

def topIs (o : List Int) (x : Int) : Bool := decide (0 < o.length) && decide (o.getD (o.length - 1) 0 = x)
def dropTop (o : List Int) : List Int := o.take (o.length - 1)
theorem topIs_snoc (o : List Int) (y x : Int) : topIs (o ++ [y]) x = decide (y = x) := by simp [topIs, List.getD]
theorem dropTop_snoc (o : List Int) (y : Int) : dropTop (o ++ [y]) = o := by simp [dropTop]
def canc (o : List Int) : List Int → List Int
  | [] => o
  | x :: r => if topIs o x then canc (dropTop o) r else canc (o ++ [x]) r
/-- the model's way -/
def mdl (o e : List Int) : List Int → Bool
  | [] => decide (o.length = 0)
  | x :: r => if x ∈ e then false else if x ∉ o then mdl (o ++ [x]) e r else if topIs o x then mdl (dropTop o) (e ++ [x]) r else false

theorem snoc_cases (o : List Int) : o = [] ∨ ∃ p y, o = p ++ [y] := by
  rcases List.eq_nil_or_concat o with h | ⟨p, y, h⟩
  · exact .inl h
  · exact .inr ⟨p, y, by simpa using h⟩
theorem canc_keeps (x : Int) : ∀ (r o : List Int), x ∈ o → x ∉ r → x ∈ canc o r
  | [], o, h, _ => h
  | y :: r, o, h, hr => by
    rw [List.mem_cons, not_or] at hr
    unfold canc
    split
    · next ht =>
      refine canc_keeps x r _ ?_ hr.2
      rcases snoc_cases o with rfl | ⟨p, z, rfl⟩
      · simp at h
      · rw [topIs_snoc, decide_eq_true_eq] at ht
        subst ht
        rw [dropTop_snoc]
        rw [List.mem_append, List.mem_singleton] at h
        exact h.resolve_right hr.1
    · exact canc_keeps x r _ (by simp [h]) hr.2

/-- how often each number is still to come -/
def Todo (o e r : List Int) : Prop := ∀ x, (x ∈ e → r.count x = 0) ∧ (x ∉ e → x ∈ o → r.count x = 1) ∧ (x ∉ e → x ∉ o → r.count x = 0 ∨ r.count x = 2)
theorem mdl_canc : ∀ (r o e : List Int), o.Nodup → (∀ x ∈ o, x ∉ e) → (mdl o e r = true ↔ Todo o e r ∧ canc o r = [])
  | [], o, e, hn, hd => by
    rw [mdl, canc, decide_eq_true_eq, List.length_eq_zero_iff]
    constructor
    · rintro rfl
      exact ⟨fun x => ⟨fun _ => rfl, fun _ h => by simp at h, fun _ _ => .inl rfl⟩, rfl⟩
    · exact fun h => h.2
  | x :: r, o, e, hn, hd => by
    rw [mdl]
    by_cases h1 : x ∈ e
    · rw [if_pos h1]
      constructor
      · intro h; cases h
      · rintro ⟨h, _⟩
        have := (h x).1 h1
        simp at this
    rw [if_neg h1]
    by_cases h2 : x ∈ o
    · rw [if_neg (fun h => h h2)]
      rcases snoc_cases o with rfl | ⟨p, z, rfl⟩
      · simp at h2
      rw [List.nodup_append] at hn
      have hzp : z ∉ p := fun h => hn.2.2 z h z (by simp) rfl
      rw [topIs_snoc, canc, topIs_snoc, dropTop_snoc]
      by_cases h3 : z = x
      · subst h3
        rw [if_pos (by simp), if_pos (by simp), mdl_canc r p (e ++ [z]) hn.1 (fun y hy => by
          rw [List.mem_append, List.mem_singleton, not_or]
          exact ⟨hd y (by simp [hy]), fun e => hzp (e ▸ hy)⟩)]
        refine and_congr_left fun _ => ?_
        constructor
        · intro h y
          have hy := h y
          rw [List.mem_append, List.mem_singleton] at hy
          rw [List.count_cons, List.mem_append, List.mem_singleton]
          by_cases e1 : y = z
          · subst e1
            have := hy.1 (.inr rfl)
            refine ⟨fun h => absurd h h1, fun _ _ => by simp [this], fun _ h => absurd (.inr rfl) h⟩
          · have e2 : (z == y) = false := by simp; exact fun e => e1 e.symm
            rw [e2]
            simp only [Bool.false_eq_true, if_false, Nat.add_zero]
            refine ⟨fun h => hy.1 (.inl h), fun h h' => hy.2.1 (fun h2 => h2.elim h e1) (h'.resolve_right e1), fun h h' => hy.2.2 (fun h2 => h2.elim h e1) (fun h2 => h' (.inl h2))⟩
        · intro h y
          have hy := h y
          rw [List.count_cons, List.mem_append, List.mem_singleton] at hy
          rw [List.mem_append, List.mem_singleton]
          by_cases e1 : y = z
          · subst e1
            have := hy.2.1 h1 (.inr rfl)
            simp at this
            refine ⟨fun _ => this, fun h => absurd (.inr rfl) h, fun h => absurd (.inr rfl) h⟩
          · have e2 : (z == y) = false := by simp; exact fun e => e1 e.symm
            rw [e2] at hy
            simp only [Bool.false_eq_true, if_false, Nat.add_zero] at hy
            refine ⟨fun h => hy.1 (h.resolve_right e1), fun h h' => hy.2.1 (fun h2 => h (.inl h2)) (.inl h'), fun h h' => hy.2.2 (fun h2 => h (.inl h2)) (fun h2 => h2.elim h' e1)⟩
      · rw [if_neg (by simpa using h3), if_neg (by simpa using h3)]
        constructor
        · intro h; cases h
        · rintro ⟨h, hc⟩
          have := (h x).2.1 h1 h2
          simp at this
          have hk := canc_keeps x r (p ++ [z] ++ [x]) (by simp) (List.count_eq_zero.1 this)
          rw [hc] at hk
          simp at hk
    · rw [if_pos h2]
      have ht : topIs o x = false := by
        rcases snoc_cases o with rfl | ⟨p, z, rfl⟩
        · rfl
        · rw [topIs_snoc, decide_eq_false_iff_not]
          intro e; exact h2 (by simp [e])
      rw [canc, ht, if_neg (by simp), mdl_canc r (o ++ [x]) e (by
        rw [List.nodup_append]
        exact ⟨hn, by simp, fun a ha b hb e => by simp at hb; subst hb; subst e; exact h2 ha⟩) (fun y hy => by
        rw [List.mem_append, List.mem_singleton] at hy
        rcases hy with hy | rfl
        · exact hd y hy
        · exact h1)]
      refine and_congr_left fun _ => ?_
      constructor
      · intro h y
        have hy := h y
        rw [List.mem_append, List.mem_singleton] at hy
        rw [List.count_cons]
        by_cases e1 : y = x
        · subst e1
          have := hy.2.1 h1 (.inr rfl)
          refine ⟨fun h => absurd h h1, fun _ h => absurd h h2, fun _ _ => .inr (by simp [this])⟩
        · have e2 : (x == y) = false := by simp; exact fun e => e1 e.symm
          rw [e2]
          simp only [Bool.false_eq_true, if_false, Nat.add_zero]
          refine ⟨hy.1, fun h h' => hy.2.1 h (.inl h'), fun h h' => hy.2.2 h (fun h2 => h2.elim h' e1)⟩
      · intro h y
        have hy := h y
        rw [List.count_cons] at hy
        rw [List.mem_append, List.mem_singleton]
        by_cases e1 : y = x
        · subst e1
          have := hy.2.2 h1 h2
          simp at this
          refine ⟨fun h => absurd h h1, fun _ _ => this, fun _ h => absurd (.inr rfl) h⟩
        · have e2 : (x == y) = false := by simp; exact fun e => e1 e.symm
          rw [e2] at hy
          simp only [Bool.false_eq_true, if_false, Nat.add_zero] at hy
          refine ⟨hy.1, fun h h' => hy.2.1 h (h'.resolve_right e1), fun h h' => hy.2.2 h (fun h2 => h' (.inl h2))⟩
theorem mdl_eq (r : List Int) : mdl [] [] r = (twiceB r && decide ((canc [] r).length = 0)) := by
  apply Bool.eq_iff_iff.2
  rw [mdl_canc r [] [] (by simp) (by simp), Bool.and_eq_true, twice_iff, decide_eq_true_eq, List.length_eq_zero_iff]
  refine and_congr_left fun _ => ?_
  constructor
  · intro h x hx
    have := (h x).2.2 (by simp) (by simp)
    rcases this with h0 | h0
    · rw [List.count_eq_zero] at h0; exact absurd hx h0
    · exact h0
  · intro h x
    refine ⟨fun h => by simp at h, fun _ h => by simp at h, fun _ _ => ?_⟩
    by_cases hx : x ∈ r
    · exact .inr (h x hx)
    · exact .inl (List.count_eq_zero.2 hx)

/-- as many numbers as each is there twice -/
theorem twice_len : ∀ (S r : List Int), S.Nodup → (∀ x ∈ S, r.count x = 2) → 2 * S.length ≤ r.length
  | [], r, _, _ => by simp
  | x :: S, r, hn, h => by
    rw [List.nodup_cons] at hn
    have h1 := h x (by simp)
    have h2 := twice_len S (r.filter (fun y => !(y == x))) hn.2 (fun y hy => by
      have hne : y ≠ x := fun e => hn.1 (e ▸ hy)
      rw [List.count_filter (by simpa using hne)]
      exact h y (by simp [hy]))
    have h3 : r.length = (r.filter (fun y => y == x)).length + (r.filter (fun y => !(y == x))).length := by
      clear h h1 h2
      induction r with
      | nil => rfl
      | cons y r ih =>
        rw [List.filter_cons, List.filter_cons]
        by_cases e : (y == x) = true
        · simp only [e, if_true, Bool.not_true, Bool.false_eq_true, if_false, List.length_cons]; omega
        · simp only [e, if_false, Bool.false_eq_true, Bool.not_false, if_true, List.length_cons]; omega
    have h4 : (r.filter (fun y => y == x)).length = r.count x := by
      rw [List.count_eq_length_filter]
    rw [List.length_cons]
    omega

/-- a state -/
def stateB (u d : List Int) (c : Int) : Bool := decide (u.length ≤ 6) && decide (d.length ≤ 6) && inB c 0 6 && decide (renU u = u ∧ renD u d = d) && twiceB (roundL u d) && decide ((canc [] (roundL u d)).length = 0)
theorem roundL_count (u d : List Int) (x : Int) : (roundL u d).count x = (u ++ d).count x := by
  unfold roundL
  rw [List.count_append, List.count_append, List.count_reverse]
theorem ren_small {u d : List Int} (h1 : u.length ≤ 6) (h2 : d.length ≤ 6) (h3 : twiceB (roundL u d) = true) : ∀ x ∈ renU u ++ renD u d, 0 ≤ x ∧ x < 6 := by
  intro x hx
  have hb := ren_bd u d x hx
  have := twice_len (seenL [] (u ++ d)) (u ++ d) (seenL_nodup _ _ (by simp)) (fun y hy => by
    rw [← roundL_count]
    have hm : y ∈ u ++ d := ((seenL_mem _ _ _).1 hy).resolve_left (by simp)
    exact (twice_iff _).1 h3 y (by unfold roundL; rw [List.mem_append, List.mem_reverse, ← List.mem_append]; exact hm))
  rw [List.length_append] at this
  omega
theorem state_facts {u d : List Int} {c : Int} (h : stateB u d c = true) : u.length ≤ 6 ∧ d.length ≤ 6 ∧ (0 ≤ c ∧ c ≤ 6) ∧ renU u = u ∧ renD u d = d ∧ twiceB (roundL u d) = true ∧ (canc [] (roundL u d)).length = 0 := by
  unfold stateB at h
  simp only [Bool.and_eq_true, decide_eq_true_eq] at h
  obtain ⟨⟨⟨⟨⟨h1, h2⟩, h3⟩, h4⟩, h5⟩, h6⟩ := h
  exact ⟨h1, h2, inB_iff.1 h3, h4.1, h4.2, h5, h6⟩
end Go.Proofs.Ytllhdmpnjcemkac
