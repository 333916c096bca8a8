/- Plain mathematics: sets of points as bits; curves told by rounds over them. -/
import Derived.Test.YtgaaddfipkdlaaaWeedArcs
namespace Go.Proofs.Ytgaaddfipkdlaaa
set_option linter.unusedSimpArgs false
set_option linter.unusedVariables false

/-- a number's bits tell a set of points -/
structure Bits (n S : Nat) (f : Nat → Bool) : Prop where
  lt : S < 2 ^ n
  bit : ∀ x, x < n → S.testBit x = f x
theorem Bits.zero (n : Nat) : Bits n 0 (fun _ => false) := ⟨Nat.two_pow_pos n, fun x _ => by simp⟩
theorem Bits.one {n i : Nat} (hi : i < n) : Bits n (2 ^ i) (fun x => x == i) := ⟨Nat.pow_lt_pow_right (by omega) hi, fun x _ => by rw [Nat.testBit_two_pow]; by_cases h : i = x <;> simp [h] <;> omega⟩
theorem Bits.or {n S U : Nat} {f g : Nat → Bool} (h : Bits n S f) (k : Bits n U g) : Bits n (S ||| U) (fun x => f x || g x) := ⟨Nat.or_lt_two_pow h.lt k.lt, fun x hx => by rw [Nat.testBit_or, h.bit x hx, k.bit x hx]⟩
theorem Bits.congr {n S : Nat} {f g : Nat → Bool} (h : Bits n S f) (e : ∀ x, x < n → f x = g x) : Bits n S g := ⟨h.lt, fun x hx => (h.bit x hx).trans (e x hx)⟩
theorem bit_test (S k : Nat) : (((S : Int) / 2 ^ k).tmod 2 == 1) = S.testBit k := by
  have e : ((S : Int) / 2 ^ k) = ((S / 2 ^ k : Nat) : Int) := by simp
  rw [e, Int.tmod_eq_emod_of_nonneg (Int.natCast_nonneg _), Nat.testBit_eq_decide_div_mod_eq]
  generalize S / 2 ^ k = z
  rw [Bool.eq_iff_iff]
  simp only [beq_iff_eq, decide_eq_true_iff]
  omega

open Classical in
/-- the points that are reached from one of the first k -/
noncomputable def seenB (T B : Nat → Nat) (k x : Nat) : Bool := decide (∃ j, j < k ∧ Rch T B j x)
variable {n : Nat} {T B : Nat → Nat}
theorem seen_iff {k x : Nat} : seenB T B k x = true ↔ ∃ j, j < k ∧ Rch T B j x := by simp [seenB]
theorem seen_zero (x : Nat) : seenB T B 0 x = false := by
  cases h : seenB T B 0 x with
  | false => rfl
  | true => obtain ⟨j, hj, _⟩ := seen_iff.1 h; omega
theorem seen_first (hT : Inv n T) (hB : Inv n B) {k : Nat} (hk : k < n) : firstB (comp n T B k) k = !seenB T B k k := by
  rw [Bool.eq_iff_iff, first_iff hk]
  simp only [Bool.not_eq_true', ← Bool.not_eq_true, seen_iff]
  constructor
  · rintro h ⟨j, hj, hr⟩; exact h j hj (hr.symm hT hB (by omega))
  · intro h j hj hr; exact h ⟨j, hj, hr.symm hT hB hk⟩
/-- a point that is reached from one before adds nothing -/
theorem seen_old {k : Nat} (h : seenB T B k k = true) (x : Nat) : seenB T B (k + 1) x = seenB T B k x := by
  rw [Bool.eq_iff_iff, seen_iff, seen_iff]
  constructor
  · rintro ⟨j, hj, hr⟩
    by_cases e : j = k
    · subst e
      obtain ⟨i, hi, hr2⟩ := seen_iff.1 h
      exact ⟨i, hi, hr2.trans hr⟩
    · exact ⟨j, by omega, hr⟩
  · rintro ⟨j, hj, hr⟩; exact ⟨j, by omega, hr⟩
theorem seen_new (hT : Inv n T) (hB : Inv n B) {k : Nat} (hk : k < n) {x : Nat} (hx : x < n) : (seenB T B k x || rAll T B n n (fun y => y == k) x) = seenB T B (k + 1) x := by
  rw [Bool.eq_iff_iff, Bool.or_eq_true, seen_iff, seen_iff, rAll_iff hT hB hk hx]
  constructor
  · rintro (⟨j, hj, hr⟩ | hr)
    · exact ⟨j, by omega, hr⟩
    · exact ⟨k, by omega, hr⟩
  · rintro ⟨j, hj, hr⟩
    by_cases e : j = k
    · subst e; exact .inr hr
    · exact .inl ⟨j, by omega, hr⟩
/-- the points of a set, in order, up to one -/
def ptsUp (f : Nat → Bool) (j : Nat) : List Nat := (List.range j).filter f
theorem ptsUp_succ (f : Nat → Bool) (j : Nat) : ptsUp f (j + 1) = ptsUp f j ++ (if f j then [j] else []) := by
  unfold ptsUp
  rw [List.range_succ, List.filter_append]
  congr 1
  simp [List.filter_cons]
theorem ptsUp_len (f : Nat → Bool) (j : Nat) : (ptsUp f j).length ≤ j := by
  have := List.length_filter_le f (List.range j); simpa [ptsUp] using this
theorem ptsUp_comp (hT : Inv n T) (hB : Inv n B) {k : Nat} (hk : k < n) : ptsUp (rAll T B n n (fun y => y == k)) n = comp n T B k := by
  unfold ptsUp comp
  refine List.filter_congr fun x hx => ?_
  rw [Bool.eq_iff_iff, rAll_iff hT hB hk (by simpa using hx)]
  simp
theorem endB_snoc (l : List Nat) (j : Nat) : endB T B (l ++ [j]) = (endB T B l || (T j == j || B j == j)) := by simp [endB]
theorem natL_snoc (l : List Nat) (j : Nat) : natL (l ++ [j]) = natL l ++ [(j : Int)] := by simp [natL]
/-- the curves of one kind among those with first points before k -/
noncomputable def wantUp (n : Nat) (T B : Nat → Nat) (p : Bool) (k : Nat) : List (List Int) := ((((curvesFrom n T B k).filter (fun c => c.2 == p)).map (·.1)).map natL)
theorem wantUp_zero (p : Bool) : wantUp n T B p 0 = [] := rfl
theorem wantUp_skip {p : Bool} {k : Nat} (h : firstB (comp n T B k) k = false) : wantUp n T B p (k + 1) = wantUp n T B p k := by
  unfold wantUp
  simp only [curvesFrom, h, Bool.false_eq_true, if_false, List.append_nil]
theorem wantUp_take {p : Bool} {k : Nat} (h : firstB (comp n T B k) k = true) (he : (endB T B (comp n T B k) == p) = true) : wantUp n T B p (k + 1) = wantUp n T B p k ++ [natL (comp n T B k)] := by
  unfold wantUp
  simp only [curvesFrom, h, if_true, List.filter_append, List.map_append]
  simp [List.filter_cons, he]
theorem wantUp_pass {p : Bool} {k : Nat} (h : firstB (comp n T B k) k = true) (he : (endB T B (comp n T B k) == p) = false) : wantUp n T B p (k + 1) = wantUp n T B p k := by
  unfold wantUp
  simp only [curvesFrom, h, if_true, List.filter_append, List.map_append]
  simp [List.filter_cons, he]
theorem wantUp_all (t b : List Int) (p : Bool) : wantUp t.sum.toNat (arcN t) (arcN b) p t.sum.toNat = weedWanted t b p := rfl
theorem wantUp_len (p : Bool) (k : Nat) : (wantUp n T B p k).length ≤ k := by
  unfold wantUp
  simp only [List.length_map]
  exact Nat.le_trans (List.length_filter_le _ _) (curvesFrom_length n T B k)
end Go.Proofs.Ytgaaddfipkdlaaa
