/- Cuts: closed stretches, what is inside and outside of them, the shortest ones: plain mathematics. -/
/- The shortest closed stretch is the one that the program's search finds: plain mathematics. -/
/- A system put into another one: plain mathematics. -/
import Derived.Test.YtogjclmmjdhfeabEnum
namespace Go.Proofs.Ytogjclmmjdhfeab
set_option linter.unusedSimpArgs false
set_option linter.unusedVariables false

/-- no arch of both systems leads out of i..j -/
def clP (t b : List Int) (i j k : Nat) : Bool := inB (t.getD k 0) i j && inB (b.getD k 0) i j
def closedL (t b : List Int) (i j : Nat) : Bool := allFrom (clP t b i j) i (j + 1 - i)
def cl1 (l : List Int) (i j : Nat) : Bool := allFrom (fun k => inB (l.getD k 0) i j) i (j + 1 - i)
theorem allFrom_and (f g : Nat → Bool) : ∀ m k, allFrom (fun x => f x && g x) k m = (allFrom f k m && allFrom g k m)
  | 0, k => rfl
  | m + 1, k => by
    simp only [allFrom, allFrom_and f g m (k + 1)]
    cases f k <;> cases g k <;> simp
theorem closed_split (t b : List Int) (i j : Nat) : closedL t b i j = (cl1 t i j && cl1 b i j) := allFrom_and _ _ _ _

/-- the points among the first k that are chosen -/
def whereC (c : Int → Bool) : Nat → List Int
  | 0 => []
  | k + 1 => whereC c k ++ if c (k : Int) then [(k : Int)] else []
def posC (l : List Int) (x : Int) : Int := match l.findIdx? (· == x) with | some k => (k : Int) | none => -1
def inC (i j : Nat) (x : Int) : Bool := inB x i j
def outC (i j : Nat) (x : Int) : Bool := !inB x i j
/-- the system of chosen points, as the program makes it -/
def aloneL (c : Int → Bool) (l : List Int) : List Int := (whereC c l.length).map fun p => posC (whereC c l.length) (l.getD p.toNat 0)
def innerL (l : List Int) (i j : Nat) : List Int := ((l.drop i).take (j + 1 - i)).map fun x => x - (i : Int)
/-- what is outside, as the model makes it -/
def outS (i j : Nat) (x : Int) : Int := if (j : Int) < x then x - ((j : Int) - i + 1) else x
def outerK (l : List Int) (i j : Nat) : Nat → List Int
  | 0 => []
  | k + 1 => outerK l i j k ++ if inB (k : Int) i j then [] else [outS i j (l.getD k 0)]
def outerL (l : List Int) (i j : Nat) : List Int := outerK l i j l.length

def cutAt (l : List Int) (i : Nat) : Bool := (List.range l.length).all fun j => !(decide (i < j) && cl1 l i j) ||
  (goodB (innerL l i j) && goodB (outerL l i j) && (aloneL (inC i j) l == innerL l i j) && (aloneL (outC i j) l == outerL l i j))
def cutTo (lo hi : Nat) (l : List Int) : Bool := (List.range' lo (hi - lo)).all (cutAt l)
def cutSmall (l : List Int) : Bool := (List.range l.length).all (cutAt l)
theorem cutSmall0 : (sysAll 0).all cutSmall = true := by kernel_rfl
theorem cutSmall1 : (sysAll 1).all cutSmall = true := by kernel_rfl
theorem cutSmall2 : (sysAll 2).all cutSmall = true := by kernel_rfl
theorem cutSmall3 : (sysAll 3).all cutSmall = true := by kernel_rfl
theorem cutSmall4 : (sysAll 4).all cutSmall = true := by kernel_rfl
theorem cutSmall5 : (sysAll 5).all cutSmall = true := by kernel_rfl
theorem cutTo6a : (sysAll 6).all (cutTo 0 2) = true := by kernel_rfl
theorem cutTo6b : (sysAll 6).all (cutTo 2 4) = true := by kernel_rfl
theorem cutTo6c : (sysAll 6).all (cutTo 4 7) = true := by kernel_rfl
theorem cutTo6d : (sysAll 6).all (cutTo 7 12) = true := by kernel_rfl
theorem cut_all {l : List Int} (h : goodB l = true) {i : Nat} (hi : i < l.length) : cutAt l i = true := by
  have h12 := good_len' h
  have hm := mem_sysAll h
  have small : ∀ n, l.length / 2 = n → (sysAll n).all cutSmall = true → cutAt l i = true := fun n e hs => by
    rw [e] at hm
    exact List.all_eq_true.1 (List.all_eq_true.1 hs l hm) i (List.mem_range.2 hi)
  have big : ∀ lo hi0, l.length / 2 = 6 → lo ≤ i → i < hi0 → (sysAll 6).all (cutTo lo hi0) = true → cutAt l i = true := fun lo hi0 e h1 h2 hs => by
    rw [e] at hm
    refine List.all_eq_true.1 (List.all_eq_true.1 hs l hm) i (List.mem_range'.2 ⟨i - lo, by omega, by omega⟩)
  have : l.length / 2 = 0 ∨ l.length / 2 = 1 ∨ l.length / 2 = 2 ∨ l.length / 2 = 3 ∨ l.length / 2 = 4 ∨ l.length / 2 = 5 ∨ l.length / 2 = 6 := by omega
  rcases this with e | e | e | e | e | e | e
  · exact small 0 e cutSmall0
  · exact small 1 e cutSmall1
  · exact small 2 e cutSmall2
  · exact small 3 e cutSmall3
  · exact small 4 e cutSmall4
  · exact small 5 e cutSmall5
  · rcases Nat.lt_or_ge i 2 with h2 | h2
    · exact big 0 2 e (by omega) h2 cutTo6a
    · rcases Nat.lt_or_ge i 4 with h4 | h4
      · exact big 2 4 e h2 h4 cutTo6b
      · rcases Nat.lt_or_ge i 7 with h7 | h7
        · exact big 4 7 e h4 h7 cutTo6c
        · exact big 7 12 e h7 (by omega) cutTo6d
theorem cut_facts {l : List Int} (h : goodB l = true) {i j : Nat} (hij : i < j) (hj : j < l.length) (hc : cl1 l i j = true) :
    goodB (innerL l i j) = true ∧ goodB (outerL l i j) = true ∧ aloneL (inC i j) l = innerL l i j ∧ aloneL (outC i j) l = outerL l i j := by
  have h1 := cut_all h (i := i) (by omega)
  unfold cutAt at h1
  have h2 := List.all_eq_true.1 h1 j (List.mem_range.2 hj)
  rw [decide_eq_true hij, hc] at h2
  simp only [Bool.and_self, Bool.not_true, Bool.false_or, Bool.and_eq_true, beq_iff_eq] at h2
  exact ⟨h2.1.1.1, h2.1.1.2, h2.1.2, h2.2⟩

theorem innerL_length {l : List Int} {i j : Nat} (hij : i < j) (hj : j < l.length) : (innerL l i j).length = j + 1 - i := by
  simp [innerL]; omega
theorem outerK_length (l : List Int) {i j : Nat} (hij : i < j) : ∀ k, (outerK l i j k).length = if k ≤ i then k else if k ≤ j then i else k - (j + 1 - i)
  | 0 => by simp [outerK]
  | k + 1 => by
    rw [outerK, List.length_append, outerK_length l hij k]
    by_cases h : inB (k : Int) i j = true
    · have := inB_iff.1 h
      rw [h]; simp only [if_true, List.length_nil]; repeat' split
      all_goals omega
    · rw [Bool.not_eq_true] at h
      have h0 : ¬ ((i : Int) ≤ k ∧ (k : Int) ≤ j) := fun e => by rw [inB_iff.2 e] at h; cases h
      rw [h]; simp only [Bool.false_eq_true, if_false, List.length_cons, List.length_nil]; repeat' split
      all_goals omega
theorem outerL_length {l : List Int} {i j : Nat} (hij : i < j) (hj : j < l.length) : (outerL l i j).length = l.length - (j + 1 - i) := by
  rw [outerL, outerK_length l hij]; split
  · omega
  · split <;> omega
theorem outerK_le (l : List Int) (i j : Nat) : ∀ k, (outerK l i j k).length ≤ k
  | 0 => Nat.le_refl _
  | k + 1 => by have := outerK_le l i j k; rw [outerK, List.length_append]; split <;> simp <;> omega

/-! the shortest of some stretches -/
abbrev Str := Nat × Nat
def slen (p : Str) : Nat := p.2 - p.1
/-- the better one of two that come one after the other -/
def pickS (last : Bool) (r : Option Str) (p : Str) : Option Str := match r with
  | none => some p
  | some q => if decide (slen p < slen q) || (last && decide (slen p = slen q)) then some p else some q
def shortOf (last : Bool) (L : List Str) : Option Str := L.foldl (pickS last) none

/-- the proper stretches of n points that begin at i, the first k of them -/
def strFrom (n i : Nat) : Nat → List Str
  | 0 => []
  | k + 1 => strFrom n i k ++ if k + 2 ≤ n - i ∧ k + 2 < n then [(i, i + 1 + k)] else []
def strRow (n i : Nat) : List Str := strFrom n i (n - i - 1)
def strUp (n : Nat) : Nat → List Str
  | 0 => []
  | i + 1 => strUp n i ++ strRow n i
/-- all proper stretches, in order -/
def strAll (n : Nat) : List Str := strUp n n
def proper (n : Nat) (p : Str) : Prop := p.1 < p.2 ∧ p.2 < n ∧ p.2 - p.1 + 1 < n
theorem mem_strFrom (n i : Nat) : ∀ k p, p ∈ strFrom n i k ↔ proper n p ∧ p.1 = i ∧ p.2 < i + 1 + k
  | 0, p => by simp [strFrom, proper]; omega
  | k + 1, p => by
    rw [strFrom, List.mem_append, mem_strFrom n i k p]
    obtain ⟨x, y⟩ := p
    unfold proper
    split
    · next h =>
      simp only [List.mem_singleton, Prod.mk.injEq]
      constructor
      · rintro (h1 | ⟨rfl, rfl⟩)
        · exact ⟨h1.1, h1.2.1, by omega⟩
        · simp; omega
      · rintro ⟨h1, rfl, h3⟩
        simp at *
        by_cases e : y = x + 1 + k
        · exact .inr e
        · exact .inl (by omega)
    · next h =>
      simp only [List.not_mem_nil, or_false]
      constructor
      · rintro h1; exact ⟨h1.1, h1.2.1, by omega⟩
      · rintro ⟨h1, rfl, h3⟩
        simp at *
        omega
theorem mem_strUp (n : Nat) : ∀ m p, m ≤ n → (p ∈ strUp n m ↔ proper n p ∧ p.1 < m)
  | 0, p, _ => by simp [strUp]
  | m + 1, p, hm => by
    rw [strUp, List.mem_append, mem_strUp n m p (by omega), strRow, mem_strFrom]
    unfold proper
    constructor
    · rintro (h | h) <;> exact ⟨h.1, by omega⟩
    · rintro ⟨h1, h2⟩
      by_cases e : p.1 = m
      · exact .inr ⟨h1, e, by omega⟩
      · exact .inl ⟨h1, by omega⟩
theorem mem_strAll (n : Nat) (p : Str) : p ∈ strAll n ↔ proper n p := by
  rw [strAll, mem_strUp n n p (Nat.le_refl _)]
  unfold proper
  constructor
  · exact fun h => h.1
  · exact fun h => ⟨h, by omega⟩
theorem strFrom_sorted (n i : Nat) : ∀ k, (strFrom n i k).Pairwise fun a b => a.1 ≤ b.1
  | 0 => .nil
  | k + 1 => by
    rw [strFrom]
    refine List.pairwise_append.2 ⟨strFrom_sorted n i k, ?_, ?_⟩
    · split <;> simp
    · intro a ha b hb
      have h1 := ((mem_strFrom n i k a).1 ha).2.1
      split at hb
      · simp at hb; rw [hb]; simp; omega
      · simp at hb
theorem strUp_sorted (n : Nat) : ∀ m, m ≤ n → (strUp n m).Pairwise fun a b => a.1 ≤ b.1
  | 0, _ => .nil
  | m + 1, hm => by
    rw [strUp]
    refine List.pairwise_append.2 ⟨strUp_sorted n m (by omega), strFrom_sorted n m _, ?_⟩
    intro a ha b hb
    have h1 := ((mem_strUp n m a (by omega)).1 ha).2
    have h2 := ((mem_strFrom n m _ b).1 hb).2.1
    omega

/-- r is the shortest one of what fits, the first or the last of these -/
def Best (S : Str → Prop) (last : Bool) : Option Str → Prop
  | none => ∀ p, ¬ S p
  | some q => S q ∧ ∀ p, S p → slen q < slen p ∨ (slen q = slen p ∧ if last then p.1 ≤ q.1 else q.1 ≤ p.1)
theorem Best.unique {S : Str → Prop} {last : Bool} (hS : ∀ p, S p → p.1 < p.2) {r s : Option Str} (h1 : Best S last r) (h2 : Best S last s) : r = s := by
  cases r with
  | none =>
    cases s with
    | none => rfl
    | some q => exact absurd h2.1 (h1 q)
  | some p =>
    cases s with
    | none => exact absurd h1.1 (h2 p)
    | some q =>
      have a := h1.2 q h2.1
      have b := h2.2 p h1.1
      have c := hS p h1.1
      have d := hS q h2.1
      obtain ⟨p1, p2⟩ := p
      obtain ⟨q1, q2⟩ := q
      simp only [slen] at a b
      simp only [Option.some.injEq, Prod.mk.injEq]
      simp only at a b c d
      cases last <;> simp at a b <;> omega
theorem Best.step {L : List Str} {last : Bool} {r : Option Str} {p : Str} (h : Best (· ∈ L) last r) (hs : ∀ a ∈ L, a.1 ≤ p.1) : Best (· ∈ L ++ [p]) last (pickS last r p) := by
  cases r with
  | none =>
    refine ⟨by simp, fun q hq => ?_⟩
    have : q = p := by
      rcases List.mem_append.1 hq with h1 | h1
      · exact absurd h1 (h q)
      · simpa using h1
    subst this
    exact .inr ⟨rfl, by split <;> exact Nat.le_refl _⟩
  | some q =>
    obtain ⟨h1, h2⟩ := h
    have h3 := hs q h1
    unfold pickS
    simp only
    split
    · next hc =>
      simp only [Bool.or_eq_true, decide_eq_true_eq, Bool.and_eq_true] at hc
      refine ⟨by simp, fun x hx => ?_⟩
      rcases List.mem_append.1 hx with hx | hx
      · have h4 := h2 x hx
        have h5 := hs x hx
        rcases hc with hc | ⟨hc1, hc2⟩
        · left; omega
        · rw [hc1] at h4 ⊢
          simp only [if_true] at h4 ⊢
          omega
      · have : x = p := by simpa using hx
        subst this
        exact .inr ⟨rfl, by split <;> exact Nat.le_refl _⟩
    · next hc =>
      simp only [Bool.not_eq_true, Bool.or_eq_false_iff, decide_eq_false_iff_not, Bool.and_eq_false_iff] at hc
      refine ⟨List.mem_append_left _ h1, fun x hx => ?_⟩
      rcases List.mem_append.1 hx with hx | hx
      · exact h2 x hx
      · have : x = p := by simpa using hx
        subst this
        obtain ⟨c1, c2⟩ := hc
        by_cases e : slen x = slen q
        · rcases c2 with c2 | c2
          · rw [c2]; simp; omega
          · exact absurd e c2
        · left; omega
theorem best_fold (last : Bool) : ∀ (L : List Str), L.Pairwise (fun a b => a.1 ≤ b.1) → Best (· ∈ L) last (shortOf last L) := by
  have key : ∀ (L M : List Str) (r : Option Str), Best (· ∈ M) last r → (M ++ L).Pairwise (fun a b => a.1 ≤ b.1) → Best (· ∈ M ++ L) last (L.foldl (pickS last) r) := by
    intro L
    induction L with
    | nil => intro M r h _; simpa using h
    | cons p L ih =>
      intro M r h hp
      have h1 := List.pairwise_append.1 hp
      have := ih (M ++ [p]) (pickS last r p) (h.step fun a ha => h1.2.2 a ha p (by simp)) (by simpa using hp)
      simpa using this
  intro L hL
  have := key L [] none (fun p hp => by simp at hp) (by simpa using hL)
  simpa [shortOf] using this

/-- the closed proper stretches of a pair, in order -/
def cutsL (t b : List Int) : List Str := (strAll t.length).filter fun p => closedL t b p.1 p.2
def shortL (last : Bool) (t b : List Int) : Option Str := shortOf last (cutsL t b)
def Fits (t b : List Int) (p : Str) : Prop := proper t.length p ∧ closedL t b p.1 p.2 = true
theorem short_best (last : Bool) (t b : List Int) : Best (Fits t b) last (shortL last t b) := by
  have h := best_fold last (cutsL t b) ((strUp_sorted t.length t.length (Nat.le_refl _)).filter _)
  have e : ∀ p, p ∈ cutsL t b ↔ Fits t b p := fun p => by simp [cutsL, Fits, mem_strAll]
  have e2 : (fun p => p ∈ cutsL t b) = Fits t b := funext fun p => propext (e p)
  rw [e2] at h
  exact h
theorem short_eq {last : Bool} {t b : List Int} {r : Option Str} (h : Best (Fits t b) last r) : r = shortL last t b := h.unique (fun p hp => hp.1.1) (short_best last t b)
theorem short_fits {last : Bool} {t b : List Int} {p : Str} (h : shortL last t b = some p) : Fits t b p := by
  have := short_best last t b
  rw [h] at this
  exact this.1

/-! pieces -/
def piecesF (last : Bool) : Nat → List Int → List Int → List (List Int × List Int)
  | 0, t, b => [(t, b)]
  | f + 1, t, b => match shortL last t b with
    | none => [(t, b)]
    | some p => (innerL t p.1 p.2, innerL b p.1 p.2) :: piecesF last f (outerL t p.1 p.2) (outerL b p.1 p.2)
def piecesL (last : Bool) (t b : List Int) : List (List Int × List Int) := piecesF last t.length t b
def goodP (t b : List Int) : Prop := goodB t = true ∧ goodB b = true ∧ t.length = b.length
theorem inner_good {t b : List Int} (h : goodP t b) {i j : Nat} (hij : i < j) (hj : j < t.length) (hc : closedL t b i j = true) : goodP (innerL t i j) (innerL b i j) ∧ goodP (outerL t i j) (outerL b i j) := by
  obtain ⟨h1, h2, h3⟩ := h
  rw [closed_split, Bool.and_eq_true] at hc
  have a := cut_facts h1 hij hj hc.1
  have b := cut_facts h2 hij (by omega) hc.2
  refine ⟨⟨a.1, b.1, ?_⟩, a.2.1, b.2.1, ?_⟩
  · rw [innerL_length hij hj, innerL_length hij (by omega)]
  · rw [outerL_length hij hj, outerL_length hij (by omega), h3]
theorem pieces_fuel (last : Bool) : ∀ (f g : Nat) (t b : List Int), t.length ≤ f → t.length ≤ g → piecesF last f t b = piecesF last g t b
  | 0, 0, t, b, _, _ => rfl
  | 0, g + 1, t, b, hf, _ => by
    have : shortL last t b = none := by
      cases h : shortL last t b with
      | none => rfl
      | some p => have := (short_fits h).1; unfold proper at this; omega
    simp [piecesF, this]
  | f + 1, 0, t, b, _, hg => by
    have : shortL last t b = none := by
      cases h : shortL last t b with
      | none => rfl
      | some p => have := (short_fits h).1; unfold proper at this; omega
    simp [piecesF, this]
  | f + 1, g + 1, t, b, hf, hg => by
    simp only [piecesF]
    cases h : shortL last t b with
    | none => rfl
    | some p =>
      have hp := (short_fits h).1
      unfold proper at hp
      simp only
      rw [pieces_fuel last f g _ _ (by rw [outerL_length hp.1 hp.2.1]; omega) (by rw [outerL_length hp.1 hp.2.1]; omega)]
theorem pieces_none {last : Bool} {t b : List Int} (h : shortL last t b = none) : piecesL last t b = [(t, b)] := by
  unfold piecesL
  cases e : t.length with
  | zero => rfl
  | succ n => simp [piecesF, h]
theorem pieces_some {last : Bool} {t b : List Int} {p : Str} (h : shortL last t b = some p) : piecesL last t b = (innerL t p.1 p.2, innerL b p.1 p.2) :: piecesL last (outerL t p.1 p.2) (outerL b p.1 p.2) := by
  have hp := (short_fits h).1
  unfold proper at hp
  unfold piecesL
  obtain ⟨n, hn⟩ : ∃ n, t.length = n + 1 := ⟨t.length - 1, by omega⟩
  rw [hn, piecesF, h]
  simp only
  rw [pieces_fuel last n _ _ _ (by rw [outerL_length hp.1 hp.2.1]; omega) (Nat.le_refl _)]
def totP (L : List (List Int × List Int)) : Nat := (L.map fun p => p.1.length).sum
theorem pieces_facts (last : Bool) : ∀ (n : Nat) (t b : List Int), t.length = n → goodP t b → 0 < t.length →
    (∀ p ∈ piecesL last t b, goodP p.1 p.2 ∧ 2 ≤ p.1.length ∧ p.1.length % 2 = 0 ∧ p.1.length ≤ n) ∧ totP (piecesL last t b) = n := by
  intro n
  induction n using Nat.strongRecOn with
  | _ n ih =>
    intro t b hn hg h0
    have hev := (good_facts hg.1).1
    cases h : shortL last t b with
    | none =>
      rw [pieces_none h]
      refine ⟨fun p hp => ?_, by simp [totP, hn]⟩
      simp at hp; subst hp
      exact ⟨hg, by simp; omega, by simpa using hev, by simp; omega⟩
    | some p =>
      have hf := short_fits h
      have hp := hf.1
      unfold proper at hp
      obtain ⟨g1, g2⟩ := inner_good hg hp.1 hp.2.1 hf.2
      have l1 := innerL_length (l := t) hp.1 hp.2.1
      have l2 := outerL_length (l := t) hp.1 hp.2.1
      obtain ⟨r1, r2⟩ := ih _ (by omega) (outerL t p.1 p.2) (outerL b p.1 p.2) rfl g2 (by omega)
      rw [pieces_some h]
      refine ⟨fun q hq => ?_, ?_⟩
      · rcases List.mem_cons.1 hq with rfl | hq
        · have := (good_facts g1.1).1
          exact ⟨g1, by simp only; omega, this, by simp only; omega⟩
        · have := r1 q hq
          exact ⟨this.1, this.2.1, this.2.2.1, by omega⟩
      · simp only [totP, List.map_cons, List.sum_cons] at r2 ⊢
        rw [r2, l1, l2]; omega
theorem pieces_len (last : Bool) {t b : List Int} (hg : goodP t b) (h0 : 0 < t.length) : 2 * (piecesL last t b).length ≤ t.length ∧ ((piecesL last t b).length = t.length / 2 ↔ ∀ p ∈ piecesL last t b, p.1.length ≤ 2) := by
  obtain ⟨h1, h2⟩ := pieces_facts last _ t b rfl hg h0
  have hev := (good_facts hg.1).1
  generalize piecesL last t b = L at *
  rw [← h2] at hev ⊢
  clear h2 hg h0
  have key : ∀ (M : List (List Int × List Int)), (∀ p ∈ M, 2 ≤ p.1.length) → 2 * M.length ≤ totP M ∧ (2 * M.length = totP M ↔ ∀ p ∈ M, p.1.length ≤ 2) := by
    intro M
    induction M with
    | nil => intro _; simp [totP]
    | cons q M ih =>
      intro hM
      obtain ⟨a, c⟩ := ih fun p hp => hM p (List.mem_cons_of_mem _ hp)
      have hq := hM q List.mem_cons_self
      have e : totP (q :: M) = q.1.length + totP M := by simp [totP]
      rw [e, List.length_cons]
      refine ⟨by omega, ?_⟩
      rw [List.forall_mem_cons, ← c]
      omega
  have := key L fun p hp => (h1 p hp).2.1
  refine ⟨this.1, ?_⟩
  rw [← this.2]
  omega
end Go.Proofs.Ytogjclmmjdhfeab

namespace Go.Proofs.Ytogjclmmjdhfeab
set_option linter.unusedSimpArgs false
set_option linter.unusedVariables false

/-- where the k-th turn begins -/
def begN (last : Bool) (n L k : Nat) : Nat := if last then n - L - k else k
theorem begN_le {last : Bool} {n L k : Nat} (hL : L < n) (hk : k < n - L + 1) : begN last n L k + L ≤ n := by
  unfold begN; split <;> omega
theorem short_found {last : Bool} {t b : List Int} {n L k : Nat} (hn : t.length = n) (h2 : 2 ≤ L) (hL : L < n) (hk : k < n - L + 1) (H1 : ∀ p, Fits t b p → L ≤ slen p + 1)
    (H2 : ∀ k', k' < k → closedL t b (begN last n L k') (begN last n L k' + L - 1) = false) (hc : closedL t b (begN last n L k) (begN last n L k + L - 1) = true) :
    shortL last t b = some (begN last n L k, begN last n L k + L - 1) := by
  have hb := begN_le (last := last) hL hk
  refine (short_eq (r := some (begN last n L k, begN last n L k + L - 1)) ⟨⟨⟨by simp only; omega, by simp only; omega, by simp only; omega⟩, hc⟩, fun p hp => ?_⟩).symm
  have h1 := H1 p hp
  obtain ⟨⟨p1, p2, p3⟩, p4⟩ := hp
  obtain ⟨i, j⟩ := p
  simp only [slen] at *
  by_cases e : j - i + 1 = L
  · right
    refine ⟨by omega, ?_⟩
    have hk' : ∃ k', k' < n - L + 1 ∧ begN last n L k' = i := by
      cases last
      · exact ⟨i, by omega, rfl⟩
      · exact ⟨n - L - i, by omega, by simp only [begN, if_true]; omega⟩
    obtain ⟨k', a, c⟩ := hk'
    have hkk : k ≤ k' := by
      rcases Nat.lt_or_ge k' k with h | h
      · have := H2 k' h
        rw [c, show i + L - 1 = j by omega, p4] at this
        cases this
      · exact h
    cases last
    · simp only [begN, Bool.false_eq_true, if_false] at *; omega
    · simp only [begN, if_true] at *; omega
  · left; omega
theorem short_next {last : Bool} {t b : List Int} {n L : Nat} (hn : t.length = n) (h2 : 2 ≤ L) (hL : L < n) (H1 : ∀ p, Fits t b p → L ≤ slen p + 1)
    (H2 : ∀ k', k' < n - L + 1 → closedL t b (begN last n L k') (begN last n L k' + L - 1) = false) : ∀ p, Fits t b p → L + 1 ≤ slen p + 1 := by
  intro p hp
  have h1 := H1 p hp
  obtain ⟨⟨p1, p2, p3⟩, p4⟩ := hp
  obtain ⟨i, j⟩ := p
  simp only [slen] at *
  by_cases e : j - i + 1 = L
  · exfalso
    have hk' : ∃ k', k' < n - L + 1 ∧ begN last n L k' = i := by
      cases last
      · exact ⟨i, by omega, rfl⟩
      · exact ⟨n - L - i, by omega, by simp only [begN, if_true]; omega⟩
    obtain ⟨k', a, c⟩ := hk'
    have := H2 k' a
    rw [c, show i + L - 1 = j by omega, p4] at this
    cases this
  · omega
theorem short_none {last : Bool} {t b : List Int} {n L : Nat} (hn : t.length = n) (hL : n ≤ L) (H1 : ∀ p, Fits t b p → L ≤ slen p + 1) : shortL last t b = none := by
  refine (short_eq (r := none) (fun p hp => ?_)).symm
  have h1 := H1 p hp
  obtain ⟨⟨p1, p2, p3⟩, p4⟩ := hp
  simp only [slen] at h1
  omega
theorem short_start {t b : List Int} : ∀ p, Fits t b p → 2 ≤ slen p + 1 := by
  intro p hp
  obtain ⟨⟨p1, p2, p3⟩, p4⟩ := hp
  simp only [slen]
  omega
end Go.Proofs.Ytogjclmmjdhfeab

namespace Go.Proofs.Ytogjclmmjdhfeab
set_option linter.unusedSimpArgs false
set_option linter.unusedVariables false

def widen (at_ m : Nat) (x : Int) : Int := if (at_ : Int) ≤ x then x + m else x
/-- as the model makes it: the first k points of the one system, and the other one in front of the point at -/
def insK (p : List Int) (at_ : Nat) (q : List Int) : Nat → List Int
  | 0 => if at_ = 0 then q.map (· + (at_ : Int)) else []
  | k + 1 => insK p at_ q k ++ (widen at_ q.length (p.getD k 0) :: if at_ = k + 1 then q.map (· + (at_ : Int)) else [])
def insL (p : List Int) (at_ : Nat) (q : List Int) : List Int := insK p at_ q p.length
/-- as the program draws it -/
def setsL (f : Int → Int) (l o : List Int) : Nat → List Int
  | 0 => l
  | k + 1 => (setsL f l o k).set (f (k : Int)).toNat (f (o.getD k 0))
def roundTo (by_ size i : Int) : Int := ((i + by_).tmod size + size).tmod size
def insDraw (p : List Int) (at_ : Nat) (q : List Int) : List Int :=
  setsL (roundTo at_ ((p.length : Int) + q.length)) (setsL (widen at_ q.length) (List.replicate (p.length + q.length) 0) p p.length) q q.length
def insCheck (p : List Int) : Bool := (List.range (p.length + 1)).all fun i => (List.range (7 - p.length / 2)).all fun m => (sysAll m).all fun q => insDraw p i q == insL p i q
theorem insCheck0 : (sysAll 0).all insCheck = true := by kernel_rfl
theorem insCheck1 : (sysAll 1).all insCheck = true := by kernel_rfl
theorem insCheck2 : (sysAll 2).all insCheck = true := by kernel_rfl
theorem insCheck3 : (sysAll 3).all insCheck = true := by kernel_rfl
theorem insCheck4 : (sysAll 4).all insCheck = true := by kernel_rfl
theorem insCheck5 : (sysAll 5).all insCheck = true := by kernel_rfl
theorem insCheck6 : (sysAll 6).all insCheck = true := by kernel_rfl
theorem ins_draw {p q : List Int} (hp : goodB p = true) (hq : goodB q = true) {i : Nat} (hi : i ≤ p.length) (hl : p.length + q.length ≤ 12) : insDraw p i q = insL p i q := by
  have h1 := good_all6 insCheck0 insCheck1 insCheck2 insCheck3 insCheck4 insCheck5 insCheck6 hp
  unfold insCheck at h1
  have e1 := (good_facts hp).1
  have e2 := (good_facts hq).1
  have h2 := List.all_eq_true.1 (List.all_eq_true.1 h1 i (List.mem_range.2 (by omega))) (q.length / 2) (List.mem_range.2 (by omega))
  exact beq_iff_eq.1 (List.all_eq_true.1 h2 q (mem_sysAll hq))
theorem insK_length (p : List Int) (i : Nat) (q : List Int) : ∀ k, (insK p i q k).length = k + if i ≤ k then q.length else 0
  | 0 => by rw [insK]; split <;> simp <;> omega
  | k + 1 => by
    rw [insK, List.length_append, insK_length p i q k, List.length_cons]
    repeat' split
    all_goals (simp; try omega)
theorem insL_length {p : List Int} {i : Nat} (q : List Int) (hi : i ≤ p.length) : (insL p i q).length = p.length + q.length := by
  rw [insL, insK_length, if_pos hi]
end Go.Proofs.Ytogjclmmjdhfeab
