/- ParseMeander: the program's function and the model's. -/
import Derived.Test.YtbinpefogecgmaaReadPair
import Derived.Test.YtbinpefogecgmaaCut
import Derived.Test.YtbinpefogecgmaaSplit
namespace Go.Proofs.Ytbinpefogecgmaa
open Go.RowKit
set_option linter.unusedSimpArgs false
set_option linter.unusedVariables false

/-- the first bar from k on -/
def fb (s : ByteArray) : Nat → Nat → Option Nat
  | 0, _ => none
  | m + 1, k => if byteN s k = 124 then some k else fb s m (k + 1)
theorem fb_none (s : ByteArray) : ∀ (m k : Nat), (∀ j, k ≤ j → j < k + m → byteN s j ≠ 124) → fb s m k = none
  | 0, _, _ => rfl
  | m + 1, k, h => by
    rw [fb, if_neg (h k (by omega) (by omega))]
    exact fb_none s m (k + 1) (fun j h1 h2 => h j (by omega) (by omega))
theorem fb_some (s : ByteArray) : ∀ (m k i : Nat), k ≤ i → i < k + m → byteN s i = 124 → (∀ j, k ≤ j → j < i → byteN s j ≠ 124) → fb s m k = some i
  | 0, k, i, h1, h2, _, _ => by omega
  | m + 1, k, i, h1, h2, hb, hf => by
    by_cases e : k = i
    · subst e; rw [fb, if_pos hb]
    · rw [fb, if_neg (hf k (by omega) (by omega))]
      exact fb_some s m (k + 1) i (by omega) (by omega) hb (fun j h3 h4 => hf j (by omega) h4)
/-- a pair, if both texts are those of one -/
def pmOf (a b : ByteArray) : Option (List Int × List Int) :=
  if ok_ParseSystem a && ok_ParseSystem b && pairOk (res_ParseSystem a) (res_ParseSystem b) then some (res_ParseSystem a, res_ParseSystem b) else none
def pmS (s : ByteArray) : Option (List Int × List Int) := match fb s s.size 0 with
  | none => none
  | some i => pmOf (s.extract 0 i) (s.extract (i + 1) s.size)
def ok_ParseMeander (s : ByteArray) : Bool := (pmS s).isSome
def res1_ParseMeander (s : ByteArray) : List Int := ((pmS s).getD ([], [])).1
def res2_ParseMeander (s : ByteArray) : List Int := ((pmS s).getD ([], [])).2
theorem pmOf_len {a b : ByteArray} : ((pmOf a b).getD ([], [])).1.length ≤ 12 ∧ ((pmOf a b).getD ([], [])).2.length ≤ 12 := by
  unfold pmOf
  split
  · next h =>
    simp only [Bool.and_eq_true] at h
    obtain ⟨g1, g2, _⟩ := pairOk_facts h.2
    exact ⟨good_len' g1, good_len' g2⟩
  · simp
theorem len_ParseMeander (s : ByteArray) : (res1_ParseMeander s).length ≤ 1000000 ∧ (res2_ParseMeander s).length ≤ 1000000 := by
  unfold res1_ParseMeander res2_ParseMeander pmS
  split
  · simp
  · next i _ =>
    have := pmOf_len (a := s.extract 0 i) (b := s.extract (i + 1) s.size)
    omega
theorem pmS_none {s : ByteArray} (h : ∀ k, k < s.size → byteN s k ≠ 124) : pmS s = none := by rw [pmS, fb_none s s.size 0 (fun j _ h2 => h j (by omega))]
theorem pmS_some {s : ByteArray} {i : Nat} (hi : i < s.size) (hb : byteN s i = 124) (hf : ∀ k, k < i → byteN s k ≠ 124) : pmS s = pmOf (s.extract 0 i) (s.extract (i + 1) s.size) := by
  rw [pmS, fb_some s s.size 0 i (by omega) (by omega) hb (fun j _ h => hf j h)]
theorem parseS_bad (s : ByteArray) : ∀ (f k : Nat) (st p : List Int) (j : Nat), k ≤ j → j < k + f → byteN s j = 124 → parseS s f k st p = none
  | 0, k, st, p, j, h1, h2, _ => by omega
  | f + 1, k, st, p, j, h1, h2, hb => by
    rw [parseS]
    by_cases e : k = j
    · subst e
      rw [if_neg (by omega), if_neg (by omega)]
    · split
      · exact parseS_bad s f (k + 1) _ _ j (by omega) (by omega) hb
      · split
        · exact parseS_bad s f (k + 1) _ _ j (by omega) (by omega) hb
        · rfl
theorem byteN_extract (s : ByteArray) (a b k : Nat) (hb : b ≤ s.size) (hk : a + k < b) : byteN (s.extract a b) k = byteN s (a + k) := by
  unfold byteN
  congr 1
  have h1 : (s.extract a b).data.toList = (s.data.toList.take b).drop a := by
    simp [ByteArray.data_extract, Array.toList_extract, List.extract_eq_take_drop, List.drop_take]
  rw [h1]
  simp only [List.getD, List.getElem?_drop, List.getElem?_take]
  rw [if_pos hk]
theorem parsed_bad {s : ByteArray} {a b j : Nat} (hb : b ≤ s.size) (h1 : a ≤ j) (h2 : j < b) (hj : byteN s j = 124) : ok_ParseSystem (s.extract a b) = false := by
  have hsz : (s.extract a b).size = b - a := by rw [ByteArray.size_extract]; omega
  have : parsed (s.extract a b) = none := by
    unfold parsed
    split
    · refine parseS_bad _ _ _ _ _ (j - a) (by omega) (by rw [hsz]; omega) ?_
      rw [byteN_extract s a b (j - a) hb (by omega), show a + (j - a) = j by omega]
      exact hj
    · rfl
  unfold ok_ParseSystem
  rw [this]; rfl
theorem pmS_more {s : ByteArray} {i j : Nat} (hi : i < s.size) (hb : byteN s i = 124) (hf : ∀ k, k < i → byteN s k ≠ 124) (hij : i < j) (hj : j < s.size) (hb2 : byteN s j = 124) : pmS s = none := by
  rw [pmS_some hi hb hf, pmOf, parsed_bad (Nat.le_refl _) (by omega : i + 1 ≤ j) hj hb2]
  simp
/-- no bar, one, or more -/
theorem bar_three (s : ByteArray) : (∀ k, k < s.size → byteN s k ≠ 124) ∨ ∃ i, i < s.size ∧ byteN s i = 124 ∧ (∀ k, k < i → byteN s k ≠ 124) ∧ ((∀ j, i < j → j < s.size → byteN s j ≠ 124) ∨ ∃ j, i < j ∧ j < s.size ∧ byteN s j = 124) := by
  rcases bar_cases s with h | ⟨i, h1, h2, h3⟩
  · exact .inl h
  · refine .inr ⟨i, h1, h2, h3, ?_⟩
    by_cases e : ∃ j, i < j ∧ j < s.size ∧ byteN s j = 124
    · exact .inr e
    · exact .inl fun j q1 q2 q3 => e ⟨j, q1, q2, q3⟩




end Go.Proofs.Ytbinpefogecgmaa
