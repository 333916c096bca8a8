/- The shortest closed stretch is the one that the program's search finds: plain mathematics. -/
import Derived.Test.YtaeeopdiodaiaabCutMath
namespace Go.Proofs.Ytaeeopdiodaiaab
set_option linter.unusedSimpArgs false
set_option linter.unusedVariables false

/-- where the k-th turn begins -/
def begN (last : Bool) (n L k : Nat) : Nat := if last then n - L - k else k
theorem begN_le {last : Bool} {n L k : Nat} (hL : L < n) (hk : k < n - L + 1) : begN last n L k + L ≤ n := by
  unfold begN; split <;> omega
theorem short_found {last : Bool} {t b : List Int} {n L k : Nat} (hn : t.length = n) (h2 : 2 ≤ L) (hL : L < n) (hk : k < n - L + 1) (H1 : ∀ p, Fits t b p → L ≤ slen p + 1)
    (H2 : ∀ k', k' < k → closedL t b (begN last n L k') (begN last n L k' + L - 1) = false) (hc : closedL t b (begN last n L k) (begN last n L k + L - 1) = true) :
    shortL last t b = some (begN last n L k, begN last n L k + L - 1) := by
  have hb := begN_le (last := last) hL hk
  refine (short_eq (r := some (begN last n L k, begN last n L k + L - 1)) ⟨⟨⟨by simp only; omega, by simp only; omega, by simp only; omega⟩, hc⟩, fun p hp => ?_⟩).symm
  have h1 := H1 p hp
  obtain ⟨⟨p1, p2, p3⟩, p4⟩ := hp
  obtain ⟨i, j⟩ := p
  simp only [slen] at *
  by_cases e : j - i + 1 = L
  · right
    refine ⟨by omega, ?_⟩
    have hk' : ∃ k', k' < n - L + 1 ∧ begN last n L k' = i := by
      cases last
      · exact ⟨i, by omega, rfl⟩
      · exact ⟨n - L - i, by omega, by simp only [begN, if_true]; omega⟩
    obtain ⟨k', a, c⟩ := hk'
    have hkk : k ≤ k' := by
      rcases Nat.lt_or_ge k' k with h | h
      · have := H2 k' h
        rw [c, show i + L - 1 = j by omega, p4] at this
        cases this
      · exact h
    cases last
    · simp only [begN, Bool.false_eq_true, if_false] at *; omega
    · simp only [begN, if_true] at *; omega
  · left; omega
theorem short_next {last : Bool} {t b : List Int} {n L : Nat} (hn : t.length = n) (h2 : 2 ≤ L) (hL : L < n) (H1 : ∀ p, Fits t b p → L ≤ slen p + 1)
    (H2 : ∀ k', k' < n - L + 1 → closedL t b (begN last n L k') (begN last n L k' + L - 1) = false) : ∀ p, Fits t b p → L + 1 ≤ slen p + 1 := by
  intro p hp
  have h1 := H1 p hp
  obtain ⟨⟨p1, p2, p3⟩, p4⟩ := hp
  obtain ⟨i, j⟩ := p
  simp only [slen] at *
  by_cases e : j - i + 1 = L
  · exfalso
    have hk' : ∃ k', k' < n - L + 1 ∧ begN last n L k' = i := by
      cases last
      · exact ⟨i, by omega, rfl⟩
      · exact ⟨n - L - i, by omega, by simp only [begN, if_true]; omega⟩
    obtain ⟨k', a, c⟩ := hk'
    have := H2 k' a
    rw [c, show i + L - 1 = j by omega, p4] at this
    cases this
  · omega
theorem short_none {last : Bool} {t b : List Int} {n L : Nat} (hn : t.length = n) (hL : n ≤ L) (H1 : ∀ p, Fits t b p → L ≤ slen p + 1) : shortL last t b = none := by
  refine (short_eq (r := none) (fun p hp => ?_)).symm
  have h1 := H1 p hp
  obtain ⟨⟨p1, p2, p3⟩, p4⟩ := hp
  simp only [slen] at h1
  omega
theorem short_start {t b : List Int} : ∀ p, Fits t b p → 2 ≤ slen p + 1 := by
  intro p hp
  obtain ⟨⟨p1, p2, p3⟩, p4⟩ := hp
  simp only [slen]
  omega
end Go.Proofs.Ytaeeopdiodaiaab
