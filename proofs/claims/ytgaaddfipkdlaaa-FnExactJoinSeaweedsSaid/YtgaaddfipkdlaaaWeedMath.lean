/- Plain mathematics of seaweeds: parts, sums, arcs, steps that wind down, divisors. -/
import Derived.Test.YtgaaddfipkdlaaaMath
namespace Go.Proofs.Ytgaaddfipkdlaaa
set_option linter.unusedSimpArgs false
set_option linter.unusedVariables false

theorem sum_take_succ (l : List Int) (k : Nat) (h : k < l.length) : (l.take (k + 1)).sum = (l.take k).sum + l.getD k 0 := by
  rw [List.take_succ_eq_append_getElem h, List.sum_append]
  simp [List.getD, h]

/-- parts: numbers of at least 1 with a sum of at most 20 -/
def partsB (l : List Int) : Bool := l.all (fun x => decide (1 ≤ x)) && decide (l.sum ≤ 20)
def weedB (t b : List Int) : Bool := partsB t && partsB b && decide (t.sum = b.sum)

theorem ones_sum : ∀ (l : List Int), (∀ x ∈ l, 1 ≤ x) → (l.length : Int) ≤ l.sum
  | [], _ => by simp
  | x :: l, h => by
    have h1 := h x (by simp)
    have h2 := ones_sum l (fun y hy => h y (by simp [hy]))
    simp only [List.length_cons, List.sum_cons]
    omega
theorem ones_take (l : List Int) (h : ∀ x ∈ l, 1 ≤ x) (k : Nat) : (l.take k).sum + (l.drop k).length ≤ l.sum ∧ 0 ≤ (l.take k).sum := by
  have h1 := ones_sum (l.take k) (fun x hx => h x (List.mem_of_mem_take hx))
  have h2 := ones_sum (l.drop k) (fun x hx => h x (List.mem_of_mem_drop hx))
  have h3 : l.sum = (l.take k).sum + (l.drop k).sum := by rw [← List.sum_append, List.take_append_drop]
  omega
theorem parts_iff (l : List Int) : partsB l = true ↔ (∀ x ∈ l, 1 ≤ x) ∧ l.sum ≤ 20 := by simp [partsB]
theorem parts_facts {l : List Int} (h : partsB l = true) : (∀ x ∈ l, 1 ≤ x) ∧ l.sum ≤ 20 ∧ l.length ≤ 20 ∧ 0 ≤ l.sum := by
  obtain ⟨h1, h2⟩ := (parts_iff l).1 h
  have := ones_sum l h1
  exact ⟨h1, h2, by omega, by omega⟩
theorem getD_mem {l : List Int} {k : Nat} (h : k < l.length) : l.getD k 0 ∈ l := by simp [List.getD, h]
theorem parts_at {l : List Int} (h : partsB l = true) {k : Nat} (hk : k < l.length) : 1 ≤ l.getD k 0 ∧ (l.take k).sum + l.getD k 0 ≤ l.sum ∧ 0 ≤ (l.take k).sum ∧ l.sum ≤ 20 := by
  obtain ⟨h1, h2, _, _⟩ := parts_facts h
  have a := ones_take l h1 (k + 1)
  have b := ones_take l h1 k
  rw [sum_take_succ l k hk] at a
  exact ⟨h1 _ (getD_mem hk), by omega, b.2, h2⟩
theorem parts_nil : partsB [] = true := rfl
theorem parts_snoc {l : List Int} {k : Nat} (hk : k < l.length) (h : partsB (l.take k) = true) (h1 : 1 ≤ l.getD k 0) (h2 : l.getD k 0 ≤ 20 - (l.take k).sum) : partsB (l.take (k + 1)) = true := by
  rw [parts_iff] at h ⊢
  refine ⟨fun x hx => ?_, by rw [sum_take_succ l k hk]; omega⟩
  rw [List.take_succ_eq_append_getElem hk, List.mem_append] at hx
  rcases hx with hx | hx
  · exact h.1 x hx
  · simp at hx
    simp [List.getD, hk] at h1
    omega
theorem parts_bad {l : List Int} {k : Nat} (hk : k < l.length) (h : l.getD k 0 < 1 ∨ 20 - (l.take k).sum < l.getD k 0) : partsB l = false := by
  cases e : partsB l with
  | false => rfl
  | true =>
    have := parts_at e hk
    omega
theorem parts_take_sum {l : List Int} {k : Nat} (h : partsB (l.take k) = true) : 0 ≤ (l.take k).sum ∧ (l.take k).sum ≤ 20 := by
  obtain ⟨h1, h2, h3, h4⟩ := parts_facts h
  exact ⟨h4, h2⟩
/-- the model's own test -/
theorem parts_eq (l : List Int) : partsB l = (decide (l.length ≤ 20) && allFrom (fun i => inB (l.getD i 0) 1 20) 0 l.length && decide (l.sum ≤ 20)) := by
  rw [Bool.eq_iff_iff, parts_iff, Bool.and_eq_true, Bool.and_eq_true, decide_eq_true_iff, decide_eq_true_iff, allFrom_iff]
  constructor
  · rintro ⟨h1, h2⟩
    have hp : partsB l = true := (parts_iff l).2 ⟨h1, h2⟩
    refine ⟨⟨(parts_facts hp).2.2.1, fun i _ hi => ?_⟩, h2⟩
    have := parts_at hp (k := i) (by omega)
    exact inB_yes this.1 (by omega)
  · rintro ⟨⟨h1, h2⟩, h3⟩
    refine ⟨fun x hx => ?_, h3⟩
    obtain ⟨i, hi, rfl⟩ := List.mem_iff_getElem.1 hx
    have := inB_iff.1 (h2 i (Nat.zero_le _) (by omega))
    simp [List.getD, hi] at this
    exact this.1
/-- sums of numbers between 1 and 20, at most twenty -/
theorem small_take {l : List Int} (hl : l.length ≤ 20) (h : ∀ i, i < l.length → 1 ≤ l.getD i 0 ∧ l.getD i 0 ≤ 20) : ∀ k, k ≤ l.length → 0 ≤ (l.take k).sum ∧ (l.take k).sum ≤ 20 * k
  | 0, _ => by simp
  | k + 1, hk => by
    have := small_take hl h k (by omega)
    have := h k (by omega)
    rw [sum_take_succ l k (by omega)]
    omega
theorem weed_facts {t b : List Int} (h : weedB t b = true) : partsB t = true ∧ partsB b = true ∧ t.sum = b.sum := by simpa [weedB, and_assoc] using h
theorem weed_flip (t b : List Int) : weedB b t = weedB t b := by
  rw [Bool.eq_iff_iff]; simp only [weedB, Bool.and_eq_true, decide_eq_true_iff]
  constructor <;> (rintro ⟨⟨a, b⟩, c⟩; exact ⟨⟨b, a⟩, c.symm⟩)
theorem parts_empty {l : List Int} (h : partsB l = true) (h0 : l.sum = 0) : l = [] := by
  obtain ⟨h1, _, _, _⟩ := parts_facts h
  have := ones_sum l h1
  exact List.eq_nil_of_length_eq_zero (by omega)
theorem weed_empty {t b : List Int} (h : weedB t b = true) : t.length = 0 ↔ b.length = 0 := by
  obtain ⟨h1, h2, h3⟩ := weed_facts h
  constructor
  · intro h0; rw [List.eq_nil_of_length_eq_zero h0] at h3; rw [parts_empty h2 (by simpa using h3.symm)]; rfl
  · intro h0; rw [List.eq_nil_of_length_eq_zero h0] at h3; rw [parts_empty h1 (by simpa using h3)]; rfl

/-- the arcs of parts, from a first point on -/
def arcBlock (f p : Int) (m : Nat) : List Int := (List.range m).map fun (i : Nat) => f + (p - 1 - i)
def arcsFrom (f : Int) : List Int → List Int
  | [] => []
  | p :: l => arcBlock f p p.toNat ++ arcsFrom (f + p) l
def arcsL (l : List Int) : List Int := arcsFrom 0 l
theorem arcBlock_length (f p : Int) (m : Nat) : (arcBlock f p m).length = m := by simp [arcBlock]
theorem arcBlock_succ (f p : Int) (m : Nat) : arcBlock f p (m + 1) = arcBlock f p m ++ [f + (p - 1 - m)] := by
  unfold arcBlock
  rw [List.range_succ, List.map_append]; rfl
theorem arcsFrom_snoc : ∀ (l : List Int) (f p : Int), arcsFrom f (l ++ [p]) = arcsFrom f l ++ arcBlock (f + l.sum) p p.toNat
  | [], f, p => by simp [arcsFrom]
  | x :: l, f, p => by
    simp only [List.cons_append, arcsFrom, arcsFrom_snoc l, List.append_assoc, List.sum_cons]
    rw [Int.add_assoc]
theorem arcs_take_succ (l : List Int) (k : Nat) (h : k < l.length) : arcsL (l.take (k + 1)) = arcsL (l.take k) ++ arcBlock (l.take k).sum (l.getD k 0) (l.getD k 0).toNat := by
  unfold arcsL
  rw [List.take_succ_eq_append_getElem h, arcsFrom_snoc, Int.zero_add]
  simp [List.getD, h]
theorem arcsFrom_length : ∀ (l : List Int) (f : Int), (∀ x ∈ l, 1 ≤ x) → ((arcsFrom f l).length : Int) = l.sum
  | [], f, _ => by simp [arcsFrom]
  | x :: l, f, h => by
    have h1 := h x (by simp)
    have h2 := arcsFrom_length l (f + x) (fun y hy => h y (by simp [hy]))
    simp only [arcsFrom, List.length_append, arcBlock_length, List.sum_cons]
    omega
theorem arcs_length {l : List Int} (h : partsB l = true) : ((arcsL l).length : Int) = l.sum := arcsFrom_length l 0 (parts_facts h).1

/-! ### winding down -/
def hdI (l : List Int) : Int := l.getD 0 0
def stepT (t b : List Int) : List Int :=
  if hdI t < hdI b then b
  else if hdI t = hdI b then t.tail
  else if hdI t = 2 * hdI b then hdI b :: t.tail
  else if hdI t < 2 * hdI b then hdI b :: t.tail
  else (hdI t - 2 * hdI b) :: hdI b :: t.tail
def stepB (t b : List Int) : List Int :=
  if hdI t < hdI b then t
  else if hdI t = hdI b then b.tail
  else if hdI t = 2 * hdI b then b.tail
  else if hdI t < 2 * hdI b then (2 * hdI b - hdI t) :: b.tail
  else b.tail
def stepN (t b : List Int) : Nat :=
  if hdI t < hdI b then 0 else if hdI t = hdI b then 1 else if hdI t = 2 * hdI b then 2 else if hdI t < 2 * hdI b then 3 else 4
/-- the kind of a step and its first part above, in one number -/
def stepC (t b : List Int) : Nat := stepN t b + 5 * (hdI t).toNat
theorem stepN_lt (t b : List Int) : stepN t b < 5 := by unfold stepN; split <;> (try split) <;> (try split) <;> (try split) <;> omega
theorem stepC_mod (t b : List Int) : stepC t b % 5 = stepN t b := by have := stepN_lt t b; unfold stepC; omega
theorem stepC_div (t b : List Int) : stepC t b / 5 = (hdI t).toNat := by have := stepN_lt t b; unfold stepC; omega
theorem hd_tail {l : List Int} (h : 0 < l.length) : l = hdI l :: l.tail := by
  cases l with
  | nil => simp at h
  | cons x l => rfl
theorem parts_cons {x : Int} {l : List Int} : partsB (x :: l) = true ↔ 1 ≤ x ∧ (∀ y ∈ l, 1 ≤ y) ∧ x + l.sum ≤ 20 := by
  rw [parts_iff]; simp [and_assoc]
/-- how many steps are left at most, doubled but for flips -/
def windM (t b : List Int) : Nat := 2 * t.sum.toNat + (if hdI t < hdI b then 1 else 0)
theorem step_weed {t b : List Int} (h : weedB t b = true) (h0 : 0 < t.length) : weedB (stepT t b) (stepB t b) = true ∧ windM (stepT t b) (stepB t b) < windM t b := by
  have hb0 : 0 < b.length := by have := weed_empty h; omega
  obtain ⟨h1, h2, h3⟩ := weed_facts h
  have et := hd_tail h0; have eb := hd_tail hb0
  generalize hdI t = x at *
  generalize hdI b = y at *
  generalize t.tail = t' at *
  generalize b.tail = b' at *
  subst et; subst eb
  obtain ⟨p1, p2, p3⟩ := parts_cons.1 h1
  obtain ⟨q1, q2, q3⟩ := parts_cons.1 h2
  simp only [List.sum_cons] at h3
  have nt := ones_sum t' p2
  have nb := ones_sum b' q2
  have hx : hdI (x :: t') = x := rfl
  have hy : hdI (y :: b') = y := rfl
  have tx : (x :: t').tail = t' := rfl
  have ty : (y :: b').tail = b' := rfl
  have W : ∀ u v : List Int, (∀ z ∈ u, 1 ≤ z) → (∀ z ∈ v, 1 ≤ z) → u.sum ≤ 20 → u.sum = v.sum → weedB u v = true := fun u v a1 a2 a3 a4 => by
    simp only [weedB, Bool.and_eq_true, decide_eq_true_iff]
    exact ⟨⟨(parts_iff u).2 ⟨a1, a3⟩, (parts_iff v).2 ⟨a2, by omega⟩⟩, a4⟩
  have C : ∀ (z : Int) (l : List Int), 1 ≤ z → (∀ u ∈ l, 1 ≤ u) → ∀ u ∈ z :: l, 1 ≤ u := fun z l a1 a2 u hu => by
    rcases List.mem_cons.1 hu with rfl | hu
    · exact a1
    · exact a2 u hu
  unfold stepT stepB windM
  rw [hx, hy, tx, ty]
  by_cases c1 : x < y
  · rw [if_pos c1, if_pos c1, if_pos c1]
    refine ⟨W _ _ (C _ _ q1 q2) (C _ _ p1 p2) (by simp only [List.sum_cons]; omega) (by simp only [List.sum_cons]; omega), ?_⟩
    rw [hx, hy, if_neg (by omega)]
    simp only [List.sum_cons]
    omega
  · rw [if_neg c1, if_neg c1, if_neg c1]
    by_cases c2 : x = y
    · rw [if_pos c2, if_pos c2]
      refine ⟨W _ _ p2 q2 (by omega) (by omega), ?_⟩
      simp only [List.sum_cons]
      split <;> omega
    · rw [if_neg c2, if_neg c2]
      by_cases c3 : x = 2 * y
      · rw [if_pos c3, if_pos c3]
        refine ⟨W _ _ (C _ _ q1 p2) q2 (by simp only [List.sum_cons]; omega) (by simp only [List.sum_cons]; omega), ?_⟩
        simp only [List.sum_cons]
        split <;> omega
      · rw [if_neg c3, if_neg c3]
        by_cases c4 : x < 2 * y
        · rw [if_pos c4, if_pos c4]
          refine ⟨W _ _ (C _ _ q1 p2) (C _ _ (by omega) q2) (by simp only [List.sum_cons]; omega) (by simp only [List.sum_cons]; omega), ?_⟩
          simp only [List.sum_cons]
          split <;> omega
        · rw [if_neg c4, if_neg c4]
          refine ⟨W _ _ (C _ _ (by omega) (C _ _ q1 p2)) q2 (by simp only [List.sum_cons]; omega) (by simp only [List.sum_cons]; omega), ?_⟩
          simp only [List.sum_cons]
          split <;> omega
/-- all steps, as many as there may be -/
def windF : Nat → List Int → List Int → List (List Int × List Int × Nat)
  | 0, _, _ => []
  | f + 1, t, b => if t.length = 0 then [] else (stepT t b, stepB t b, stepC t b) :: windF f (stepT t b) (stepB t b)
theorem windF_more : ∀ (f g : Nat) (t b : List Int), weedB t b = true → windM t b ≤ f → windM t b ≤ g → windF f t b = windF g t b
  | 0, 0, t, b, _, _, _ => rfl
  | 0, g + 1, t, b, h, hf, _ => by
    have : t.sum.toNat = 0 := by unfold windM at hf; omega
    obtain ⟨h1, h2, h3⟩ := weed_facts h
    have := (parts_facts h1).2.2.2
    rw [parts_empty h1 (by omega)]; rfl
  | f + 1, 0, t, b, h, _, hg => by
    have : t.sum.toNat = 0 := by unfold windM at hg; omega
    obtain ⟨h1, h2, h3⟩ := weed_facts h
    have := (parts_facts h1).2.2.2
    rw [parts_empty h1 (by omega)]; rfl
  | f + 1, g + 1, t, b, h, hf, hg => by
    unfold windF
    split
    · rfl
    · next h0 =>
      have := step_weed h (by omega)
      rw [windF_more f g _ _ this.1 (by omega) (by omega)]
def windAll (t b : List Int) : List (List Int × List Int × Nat) := windF (windM t b) t b
theorem windAll_nil {t b : List Int} (h0 : t.length = 0) : windAll t b = [] := by
  unfold windAll windF
  split
  · rfl
  · rw [if_pos h0]
theorem windAll_step {t b : List Int} (h : weedB t b = true) (h0 : 0 < t.length) : windAll t b = (stepT t b, stepB t b, stepC t b) :: windAll (stepT t b) (stepB t b) := by
  have := step_weed h h0
  unfold windAll
  cases e : windM t b with
  | zero => omega
  | succ m =>
    conv => lhs; unfold windF
    rw [if_neg (by omega), windF_more m _ _ _ this.1 (by omega) (Nat.le_refl _)]

/-! ### divisors -/
def gcdI (a b : Int) : Int := (Nat.gcd a.toNat b.toNat : Nat)
theorem gcdI_zero (a : Int) (h : 0 ≤ a) : gcdI a 0 = a := by unfold gcdI; simp; omega
theorem gcdI_step (a b : Int) (ha : 0 ≤ a) (hb : 0 < b) : gcdI a b = gcdI b (a % b) := by
  unfold gcdI
  rw [Nat.gcd_comm a.toNat, Nat.gcd_rec, Nat.gcd_comm]
  congr 2
  have h1 : (a % b).toNat = a.toNat % b.toNat := by
    obtain ⟨x, rfl⟩ := Int.eq_ofNat_of_zero_le ha
    obtain ⟨y, rfl⟩ := Int.eq_ofNat_of_zero_le (Int.le_of_lt hb)
    rfl
  exact h1.symm
end Go.Proofs.Ytgaaddfipkdlaaa
