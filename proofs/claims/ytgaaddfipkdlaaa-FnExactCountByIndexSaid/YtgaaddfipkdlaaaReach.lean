/- Plain mathematics of points that arcs lead to each other: what is reached, by following and by rounds over all points. -/
import Derived.Test.YtgaaddfipkdlaaaWeedMath
namespace Go.Proofs.Ytgaaddfipkdlaaa
set_option linter.unusedSimpArgs false
set_option linter.unusedVariables false

/-- arcs on a side: each of n points is led to one of them, and back -/
def Inv (n : Nat) (T : Nat → Nat) : Prop := ∀ j, j < n → T j < n ∧ T (T j) = j
inductive Rch (T B : Nat → Nat) : Nat → Nat → Prop
  | refl (i : Nat) : Rch T B i i
  | top {i j : Nat} : Rch T B i j → Rch T B i (T j)
  | bot {i j : Nat} : Rch T B i j → Rch T B i (B j)
variable {n : Nat} {T B : Nat → Nat}
theorem Rch.lt (hT : Inv n T) (hB : Inv n B) {i j : Nat} (h : Rch T B i j) (hi : i < n) : j < n := by
  induction h with
  | refl => exact hi
  | top h ih => exact (hT _ ih).1
  | bot h ih => exact (hB _ ih).1
theorem Rch.trans {i j k : Nat} (h : Rch T B i j) (g : Rch T B j k) : Rch T B i k := by
  induction g with
  | refl => exact h
  | top _ ih => exact .top ih
  | bot _ ih => exact .bot ih
theorem Rch.symm (hT : Inv n T) (hB : Inv n B) {i j : Nat} (h : Rch T B i j) (hi : i < n) : Rch T B j i := by
  induction h with
  | refl => exact .refl i
  | @top j h ih =>
    have hj := h.lt hT hB hi
    have : Rch T B (T j) (T (T j)) := .top (.refl (T j))
    rw [(hT _ hj).2] at this
    exact this.trans ih
  | @bot j h ih =>
    have hj := h.lt hT hB hi
    have : Rch T B (B j) (B (B j)) := .bot (.refl (B j))
    rw [(hB _ hj).2] at this
    exact this.trans ih
/-- what is closed under the arcs holds all that is reached -/
theorem Rch.mem {p : Nat → Prop} (hc : ∀ j, p j → p (T j) ∧ p (B j)) {i j : Nat} (h : Rch T B i j) (hi : p i) : p j := by
  induction h with
  | refl => exact hi
  | top _ ih => exact (hc _ ih).1
  | bot _ ih => exact (hc _ ih).2

open Classical in
/-- the points that are reached, in order -/
noncomputable def comp (n : Nat) (T B : Nat → Nat) (i : Nat) : List Nat := (List.range n).filter (fun j => decide (Rch T B i j))
theorem mem_comp {i j : Nat} : j ∈ comp n T B i ↔ j < n ∧ Rch T B i j := by simp [comp]
/-- a point among them is joined with itself -/
def endB (T B : Nat → Nat) (l : List Nat) : Bool := l.any (fun j => T j == j || B j == j)
def firstB (l : List Nat) (i : Nat) : Bool := l.head? == some i
/-- the curves: for each first point, its points and whether it is a path -/
noncomputable def curvesFrom (n : Nat) (T B : Nat → Nat) : Nat → List (List Nat × Bool)
  | 0 => []
  | k + 1 => curvesFrom n T B k ++ (if firstB (comp n T B k) k then [(comp n T B k, endB T B (comp n T B k))] else [])
noncomputable def curvesOf (n : Nat) (T B : Nat → Nat) : List (List Nat × Bool) := curvesFrom n T B n
noncomputable def wanted (n : Nat) (T B : Nat → Nat) (p : Bool) : List (List Nat) := ((curvesOf n T B).filter (fun c => c.2 == p)).map (·.1)
theorem curvesFrom_length (n : Nat) (T B : Nat → Nat) : ∀ k, (curvesFrom n T B k).length ≤ k
  | 0 => by simp [curvesFrom]
  | k + 1 => by
    have := curvesFrom_length n T B k
    simp only [curvesFrom, List.length_append]
    split <;> simp <;> omega
theorem comp_length (i : Nat) : (comp n T B i).length ≤ n := by
  have := List.length_filter_le (fun j => @decide (Rch T B i j) (Classical.propDecidable _)) (List.range n)
  simpa [comp] using this
/-- an ordered list without repetition is told by its members -/
theorem sorted_eq : ∀ (a b : List Nat), a.Pairwise (· < ·) → b.Pairwise (· < ·) → (∀ x, x ∈ a ↔ x ∈ b) → a = b
  | [], [], _, _, _ => rfl
  | [], y :: b, _, _, h => by have := (h y).2 (by simp); simp at this
  | x :: a, [], _, _, h => by have := (h x).1 (by simp); simp at this
  | x :: a, y :: b, ha, hb, h => by
    have hx := (h x).1 (by simp)
    have hy := (h y).2 (by simp)
    rw [List.pairwise_cons] at ha hb
    have e : x = y := by
      rcases List.mem_cons.1 hx with e | e
      · exact e
      rcases List.mem_cons.1 hy with e' | e'
      · exact e'.symm
      have := ha.1 _ e'; have := hb.1 _ e; omega
    subst e
    congr 1
    refine sorted_eq a b ha.2 hb.2 fun z => ?_
    have := h z
    simp only [List.mem_cons] at this
    constructor
    · intro hz
      rcases this.1 (.inr hz) with rfl | h2
      · have := ha.1 _ hz; omega
      · exact h2
    · intro hz
      rcases this.2 (.inr hz) with rfl | h2
      · have := hb.1 _ hz; omega
      · exact h2
theorem comp_sorted (i : Nat) : (comp n T B i).Pairwise (· < ·) := List.Pairwise.filter _ List.pairwise_lt_range
/-- the first point of a curve -/
theorem first_iff {i : Nat} (hi : i < n) : firstB (comp n T B i) i = true ↔ ∀ j, j < i → ¬ Rch T B i j := by
  have hs := comp_sorted (n := n) (T := T) (B := B) i
  have hm : i ∈ comp n T B i := mem_comp.2 ⟨hi, .refl i⟩
  unfold firstB
  cases e : comp n T B i with
  | nil => rw [e] at hm; simp at hm
  | cons x l =>
    rw [e] at hs hm
    rw [List.pairwise_cons] at hs
    have hx : x ∈ comp n T B i := by rw [e]; simp
    simp only [List.head?_cons, beq_iff_eq, Option.some.injEq]
    constructor
    · rintro rfl j hj hr
      have : j ∈ comp n T B x := mem_comp.2 ⟨by omega, hr⟩
      rw [e] at this
      rcases List.mem_cons.1 this with h | h
      · omega
      · have := hs.1 _ h; omega
    · intro h
      rcases List.mem_cons.1 hm with h1 | h1
      · exact h1.symm
      · exact absurd (mem_comp.1 hx).2 (h x (hs.1 _ h1))

/-! ### by following -/
/-- the points met so far, in the order in which they were met -/
structure Met (n : Nat) (T B : Nat → Nat) (i k : Nat) (ps : List Nat) : Prop where
  nodup : ps.Nodup
  mem : i ∈ ps
  rch : ∀ j ∈ ps, Rch T B i j ∧ j < n
  done : ∀ m, m < k → m < ps.length → T (ps.getD m 0) ∈ ps ∧ B (ps.getD m 0) ∈ ps
theorem nodup_le (n : Nat) : ∀ (ps : List Nat), ps.Nodup → (∀ j ∈ ps, j < n) → ps.length ≤ n := by
  induction n with
  | zero => intro ps _ h; cases ps with
    | nil => simp
    | cons x l => exact absurd (h x (by simp)) (by omega)
  | succ n ih =>
    intro ps hn h
    have h1 := ih (ps.erase n) (hn.erase n) (fun j hj => by
      have hj' := List.mem_of_mem_erase hj
      have h2 := h j hj'
      have : j ≠ n := by rintro rfl; exact (hn.not_mem_erase) hj
      omega)
    have : ps.length ≤ (ps.erase n).length + 1 := by
      have := List.length_erase (a := n) (l := ps); split at this <;> omega
    omega
theorem Met.le {i k : Nat} {ps : List Nat} (h : Met n T B i k ps) : ps.length ≤ n := nodup_le n ps h.nodup fun j hj => (h.rch j hj).2
theorem Met.start {i : Nat} (hi : i < n) : Met n T B i 0 [i] := ⟨by simp, by simp, fun j hj => by simp at hj; subst hj; exact ⟨.refl _, hi⟩, fun m hm => by omega⟩
/-- a point is put behind those that were met, if it is new -/
def putNew (ps : List Nat) (x : Nat) : List Nat := if x ∈ ps then ps else ps ++ [x]
theorem mem_putNew {ps : List Nat} {x y : Nat} : y ∈ putNew ps x ↔ y ∈ ps ∨ y = x := by
  unfold putNew; split
  · next h => exact ⟨.inl, fun e => e.elim id fun e => e ▸ h⟩
  · simp
theorem putNew_nodup {ps : List Nat} {x : Nat} (h : ps.Nodup) : (putNew ps x).Nodup := by
  unfold putNew; split
  · exact h
  · next hx => rw [List.nodup_append]; exact ⟨h, by simp, fun a ha b hb => by simp at hb; subst hb; rintro rfl; exact hx ha⟩
theorem putNew_get {ps : List Nat} {x m : Nat} (h : m < ps.length) : (putNew ps x).getD m 0 = ps.getD m 0 := by
  unfold putNew; split
  · rfl
  · simp [List.getD, List.getElem?_append_left h]
theorem putNew_len {ps : List Nat} {x : Nat} : ps.length ≤ (putNew ps x).length := by unfold putNew; split <;> simp
/-- one point's arcs followed -/
theorem Met.next {i k : Nat} {ps : List Nat} (hT : Inv n T) (hB : Inv n B) (h : Met n T B i k ps) (hk : k < ps.length) : Met n T B i (k + 1) (putNew (putNew ps (T (ps.getD k 0))) (B (ps.getD k 0))) := by
  have hm : ps.getD k 0 ∈ ps := by simp [List.getD, hk]
  have hr := h.rch _ hm
  generalize ha : ps.getD k 0 = a at *
  refine ⟨putNew_nodup (putNew_nodup h.nodup), mem_putNew.2 (.inl (mem_putNew.2 (.inl h.mem))), fun j hj => ?_, fun m hm1 hm2 => ?_⟩
  · rcases mem_putNew.1 hj with hj | rfl
    · rcases mem_putNew.1 hj with hj | rfl
      · exact h.rch j hj
      · exact ⟨.top hr.1, (hT _ hr.2).1⟩
    · exact ⟨.bot hr.1, (hB _ hr.2).1⟩
  · have hml : m < ps.length := by omega
    rw [putNew_get (Nat.lt_of_lt_of_le hml putNew_len), putNew_get hml]
    by_cases e : m = k
    · subst e; rw [ha]
      exact ⟨mem_putNew.2 (.inl (mem_putNew.2 (.inr rfl))), mem_putNew.2 (.inr rfl)⟩
    · have := h.done m (by omega) hml
      exact ⟨mem_putNew.2 (.inl (mem_putNew.2 (.inl this.1))), mem_putNew.2 (.inl (mem_putNew.2 (.inl this.2)))⟩
theorem Met.closed {i k : Nat} {ps : List Nat} (h : Met n T B i k ps) (hk : ps.length ≤ k) (j : Nat) : j ∈ ps ↔ j < n ∧ Rch T B i j := by
  constructor
  · intro hj; exact ⟨(h.rch j hj).2, (h.rch j hj).1⟩
  · rintro ⟨_, hr⟩
    refine hr.mem (p := fun j => j ∈ ps) (fun a ha => ?_) h.mem
    obtain ⟨m, hm, rfl⟩ := List.mem_iff_getElem.1 ha
    have := h.done m (by omega) hm
    simpa [List.getD, hm] using this

/-! ### by rounds -/
theorem countP_lt (p q : Nat → Bool) (hpq : ∀ j, p j = true → q j = true) : ∀ n, (∃ j, j < n ∧ q j = true ∧ p j = false) → (List.range n).countP p < (List.range n).countP q
  | 0, ⟨j, hj, _⟩ => by omega
  | n + 1, ⟨j, hj, h1, h2⟩ => by
    rw [List.range_succ, List.countP_append, List.countP_append]
    have hle : (List.range n).countP p ≤ (List.range n).countP q := List.countP_mono_left fun x _ hx => hpq x hx
    simp only [List.countP_cons, List.countP_nil]
    by_cases e : j = n
    · subst e; rw [h1, h2]; simp; omega
    · have := countP_lt p q hpq n ⟨j, by omega, h1, h2⟩
      by_cases hp : p n = true
      · rw [hp, hpq n hp]; omega
      · rw [if_neg hp]; omega
/-- the points seen, as a test; one round lets all that the arcs of seen points lead to be seen -/
def rStep (T B : Nat → Nat) (s : Nat → Bool) (j : Nat) : Nat → Bool := fun x => s x || (s j && (x == T j || x == B j))
def rRound (T B : Nat → Nat) : Nat → (Nat → Bool) → (Nat → Bool)
  | 0, s => s
  | k + 1, s => rStep T B (rRound T B k s) k
def rAll (T B : Nat → Nat) (n : Nat) : Nat → (Nat → Bool) → (Nat → Bool)
  | 0, s => s
  | k + 1, s => rRound T B n (rAll T B n k s)
theorem rStep_mono {s : Nat → Bool} {j x : Nat} (h : s x = true) : rStep T B s j x = true := by simp [rStep, h]
theorem rRound_mono : ∀ (k : Nat) {s : Nat → Bool} {x : Nat}, s x = true → rRound T B k s x = true
  | 0, _, _, h => h
  | k + 1, s, x, h => rStep_mono (rRound_mono k h)
theorem rRound_arcs : ∀ (k : Nat) {s : Nat → Bool} {j : Nat}, j < k → s j = true → rRound T B k s (T j) = true ∧ rRound T B k s (B j) = true
  | 0, _, _, h, _ => by omega
  | k + 1, s, j, h, hs => by
    by_cases e : j = k
    · subst e
      have := rRound_mono (T := T) (B := B) j hs
      simp [rRound, rStep, this]
    · have := rRound_arcs k (s := s) (j := j) (by omega) hs
      exact ⟨rStep_mono this.1, rStep_mono this.2⟩
theorem rRound_sound {i : Nat} : ∀ (k : Nat) {s : Nat → Bool}, (∀ x, s x = true → Rch T B i x) → ∀ x, rRound T B k s x = true → Rch T B i x
  | 0, _, h, x, hx => h x hx
  | k + 1, s, h, x, hx => by
    have ih := rRound_sound k h
    simp only [rRound, rStep, Bool.or_eq_true, Bool.and_eq_true, beq_iff_eq] at hx
    rcases hx with hx | ⟨hk, rfl | rfl⟩
    · exact ih x hx
    · exact .top (ih k hk)
    · exact .bot (ih k hk)
theorem rAll_sound {i : Nat} {s : Nat → Bool} (h : ∀ x, s x = true → Rch T B i x) : ∀ (k : Nat) x, rAll T B n k s x = true → Rch T B i x
  | 0, x, hx => h x hx
  | k + 1, x, hx => rRound_sound n (rAll_sound h k) x hx
theorem rAll_mono {s : Nat → Bool} : ∀ (k : Nat) x, s x = true → rAll T B n k s x = true
  | 0, _, h => h
  | k + 1, x, h => rRound_mono n (rAll_mono k x h)
/-- closed among the points -/
def Clsd (n : Nat) (T B : Nat → Nat) (s : Nat → Bool) : Prop := ∀ j, j < n → s j = true → s (T j) = true ∧ s (B j) = true
theorem clsd_round (hT : Inv n T) (hB : Inv n B) {s : Nat → Bool} (h : Clsd n T B s) : ∀ k, k ≤ n → ∀ x, rRound T B k s x = s x
  | 0, _, x => rfl
  | k + 1, hk, x => by
    have ih := clsd_round hT hB h k (by omega)
    simp only [rRound, rStep]
    rw [ih x, ih k]
    cases hs : s k with
    | false => simp
    | true =>
      have := h k (by omega) hs
      cases hx : s x with
      | true => simp
      | false =>
        have h1 : x ≠ T k := by rintro rfl; rw [this.1] at hx; cases hx
        have h2 : x ≠ B k := by rintro rfl; rw [this.2] at hx; cases hx
        simp [h1, h2]
theorem clsd_or (hT : Inv n T) (hB : Inv n B) (s : Nat → Bool) : ∀ k, Clsd n T B (rAll T B n k s) ∨ (List.range n).countP s + k ≤ (List.range n).countP (rAll T B n k s)
  | 0 => .inr (by simp [rAll])
  | k + 1 => by
    rcases clsd_or hT hB s k with h | h
    · left
      have e : rAll T B n (k + 1) s = rAll T B n k s := funext fun x => clsd_round hT hB h n (Nat.le_refl _) x
      rw [e]; exact h
    · by_cases hc : Clsd n T B (rAll T B n k s)
      · left
        have e : rAll T B n (k + 1) s = rAll T B n k s := funext fun x => clsd_round hT hB hc n (Nat.le_refl _) x
        rw [e]; exact hc
      · right
        have : ∃ j, j < n ∧ rAll T B n (k + 1) s j = true ∧ rAll T B n k s j = false := by
          apply Classical.byContradiction
          intro hno
          refine hc fun j hj hs => ?_
          have ha := rRound_arcs (T := T) (B := B) n hj hs
          have hh : ∀ y, y < n → rRound T B n (rAll T B n k s) y = true → rAll T B n k s y = true := fun y hy hy2 => by
            cases e : rAll T B n k s y with
            | true => rfl
            | false => exact absurd ⟨y, hy, hy2, e⟩ hno
          exact ⟨hh _ (hT j hj).1 ha.1, hh _ (hB j hj).1 ha.2⟩
        have := countP_lt (rAll T B n k s) (rAll T B n (k + 1) s) (fun j hj => rRound_mono n hj) n this
        omega
/-- n rounds reach all that is reached -/
theorem rAll_iff (hT : Inv n T) (hB : Inv n B) {i : Nat} (hi : i < n) {j : Nat} (hj : j < n) : rAll T B n n (fun x => x == i) j = true ↔ Rch T B i j := by
  constructor
  · intro h
    exact rAll_sound (fun x hx => by simp at hx; subst hx; exact .refl _) n j h
  · intro h
    have hc : Clsd n T B (rAll T B n n (fun x => x == i)) := by
      rcases clsd_or hT hB (fun x => x == i) n with h1 | h1
      · exact h1
      · have h2 : (List.range n).countP (rAll T B n n (fun x => x == i)) ≤ n := by
          have := List.countP_le_length (p := rAll T B n n (fun x => x == i)) (l := List.range n); simpa using this
        have h3 : 0 < (List.range n).countP (fun x => x == i) := List.countP_pos_iff.2 ⟨i, by simpa using hi, by simp⟩
        omega
    have := h.mem (p := fun j => j < n ∧ rAll T B n n (fun x => x == i) j = true) (fun a ha => ⟨⟨(hT a ha.1).1, (hc a ha.1 ha.2).1⟩, ⟨(hB a ha.1).1, (hc a ha.1 ha.2).2⟩⟩) ⟨hi, rAll_mono n i (by simp)⟩
    exact this.2
end Go.Proofs.Ytgaaddfipkdlaaa
