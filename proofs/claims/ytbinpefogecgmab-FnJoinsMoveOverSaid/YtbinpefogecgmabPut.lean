/- PutArch. -/
import Derived.Test.YtbinpefogecgmabDraw
import Derived.Test.YtbinpefogecgmabGood
import Derived.Test.YtbinpefogecgmabEnum
namespace Go.Proofs.Ytbinpefogecgmab
open Go.RowKit
set_option linter.unusedSimpArgs false
set_option linter.unusedVariables false

def widenTo (i j x : Int) : Int := if j ≤ (if i ≤ x then x + 1 else x) then (if i ≤ x then x + 1 else x) + 1 else (if i ≤ x then x + 1 else x)

/-- the arches of a system and one more, from i to j -/
def putL (l : List Int) (i j : Nat) : List Int := drawL (widenTo (i : Int) (j : Int)) (((List.replicate (l.length + 2) 0).set i (j : Int)).set j (i : Int)) l l.length
theorem putL_length (l : List Int) (i j : Nat) : (putL l i j).length = l.length + 2 := by rw [putL, drawL_length, List.length_set, List.length_set, List.length_replicate]

/-- where the points of the system go -/
def placesL (n i j : Nat) : List Int := ((List.range (n + 2)).filter fun k => decide (k ≠ i) && decide (k ≠ j)).map fun (k : Nat) => (k : Int)
def putS (l : List Int) (i j : Nat) : Nat → List Int
  | 0 => ((List.replicate (l.length + 2) 0).set i (j : Int)).set j (i : Int)
  | k + 1 => (putS l i j k).set ((placesL l.length i j).getD k 0).toNat ((placesL l.length i j).getD (l.getD k 0).toNat 0)

theorem drawL_other (f : Int → Int) (l o : List Int) (x : Nat) : ∀ m, (∀ k, k < m → (f (k : Nat)).toNat ≠ x) → (drawL f l o m).getD x 0 = l.getD x 0
  | 0, _ => rfl
  | m + 1, h => by
    rw [drawL, List.getD, List.getElem?_set_ne (h m (by omega))]
    exact drawL_other f l o x m fun k hk => h k (by omega)

theorem drawL_at (f : Int → Int) (l o : List Int) (k : Nat) (hk : (f (k : Int)).toNat < l.length) : ∀ m, k < m → (∀ i j : Nat, i < m → j < m → (f i).toNat = (f j).toNat → i = j) → (drawL f l o m).getD (f (k : Int)).toNat 0 = f (o.getD k 0)
  | 0, h, _ => by omega
  | m + 1, h, hinj => by
    rw [drawL]
    by_cases e : k = m
    · subst e
      rw [List.getD, List.getElem?_set_self (by rw [drawL_length]; exact hk)]
      rfl
    · rw [List.getD, List.getElem?_set_ne (fun e2 => e (hinj m k (by omega) (by omega) e2).symm)]
      exact drawL_at f l o k hk m (by omega) fun i j hi hj => hinj i j (by omega) (by omega)

theorem widen_in {i j : Nat} {n : Nat} (hij : i < j) (hj : j < n + 2) (k : Nat) (hk : k < n) : 0 ≤ widenTo (i : Int) (j : Int) (k : Int) ∧ widenTo (i : Int) (j : Int) (k : Int) < (n : Int) + 2 ∧ widenTo (i : Int) (j : Int) (k : Int) ≠ i ∧ widenTo (i : Int) (j : Int) (k : Int) ≠ j := by
  unfold widenTo
  split <;> split <;> omega

theorem widen_inj {i j : Nat} (hij : i < j) (a b : Nat) (h : (widenTo (i : Int) (j : Int) (a : Int)).toNat = (widenTo (i : Int) (j : Int) (b : Int)).toNat) : a = b := by
  unfold widenTo at h
  split at h <;> split at h <;> split at h <;> (try split at h) <;> omega

theorem widen_onto {i j n : Nat} (hij : i < j) (hj : j < n + 2) (x : Nat) (hx : x < n + 2) (h1 : x ≠ i) (h2 : x ≠ j) : ∃ k, k < n ∧ widenTo (i : Int) (j : Int) (k : Nat) = (x : Int) := by
  by_cases a : j < x
  · exact ⟨x - 2, by omega, by unfold widenTo; split <;> split <;> omega⟩
  · by_cases b : i < x
    · exact ⟨x - 1, by omega, by unfold widenTo; split <;> split <;> omega⟩
    · exact ⟨x, by omega, by unfold widenTo; split <;> split <;> omega⟩

theorem putL_i {l : List Int} {i j : Nat} (hij : i < j) (hj : j < l.length + 2) : (putL l i j).getD i 0 = j := by
  rw [putL, drawL_other _ _ _ _ _ (fun k hk e => by have := widen_in hij hj k hk; omega), List.getD, List.getElem?_set_ne (by omega), List.getElem?_set_self (by simp; omega)]
  rfl
theorem putL_j {l : List Int} {i j : Nat} (hij : i < j) (hj : j < l.length + 2) : (putL l i j).getD j 0 = i := by
  rw [putL, drawL_other _ _ _ _ _ (fun k hk e => by have := widen_in hij hj k hk; omega), List.getD, List.getElem?_set_self (by simp; omega)]
  rfl
theorem putL_k {l : List Int} {i j : Nat} (hij : i < j) (hj : j < l.length + 2) (k : Nat) (hk : k < l.length) : (putL l i j).getD (widenTo (i : Int) (j : Int) (k : Int)).toNat 0 = widenTo (i : Int) (j : Int) (l.getD k 0) := by
  rw [putL, drawL_at _ _ _ k (by have := widen_in hij hj k hk; simp; omega) _ hk (fun a b _ _ h => widen_inj hij a b h)]

theorem pairB_mk {l : List Int} {i : Nat} (h1 : 0 ≤ l.getD i 0) (h2 : l.getD i 0 < (l.length : Int)) (h3 : l.getD i 0 ≠ (i : Int)) (h4 : l.getD (l.getD i 0).toNat 0 = (i : Int)) : pairB l i = true := by
  simp only [pairB, Bool.and_eq_true, decide_eq_true_eq]
  exact ⟨⟨⟨h1, h2⟩, h3⟩, h4⟩

theorem putL_paired {l : List Int} (hg : goodB l = true) {i j : Nat} (hij : i < j) (hj : j < l.length + 2) : pairedB (putL l i j) = true := by
  have hf := (good_facts hg).2.2.1
  unfold pairedB
  rw [allFrom_iff]
  intro x _ hx
  rw [putL_length] at hx
  by_cases e1 : x = i
  · subst e1
    have h1 := putL_i hij hj
    exact pairB_mk (by omega) (by rw [putL_length]; omega) (by omega) (by rw [h1, Int.toNat_natCast, putL_j hij hj])
  · by_cases e2 : x = j
    · subst e2
      have h1 := putL_j hij hj
      exact pairB_mk (by omega) (by rw [putL_length]; omega) (by omega) (by rw [h1, Int.toNat_natCast, putL_i hij hj])
    · obtain ⟨k, hk, hw⟩ := widen_onto hij hj x (by omega) e1 e2
      have h1 := putL_k hij hj k hk
      rw [hw, Int.toNat_natCast] at h1
      have h2 := hf k hk
      obtain ⟨m, hm⟩ := Int.eq_ofNat_of_zero_le h2.1
      rw [hm] at h1 h2
      rw [Int.toNat_natCast] at h2
      have hmn : m < l.length := by omega
      have h3 := widen_in hij hj m hmn
      have h4 := putL_k hij hj m hmn
      rw [h2.2.2.2, hw] at h4
      refine pairB_mk (by omega) (by rw [putL_length]; omega) (fun e => ?_) (by rw [h1]; exact h4)
      have := widen_inj hij m k (by rw [← h1, e, hw])
      omega

theorem putL_good {l : List Int} (hg : goodB l = true) (hl : l.length ≤ 10) {i j : Nat} (hij : i < j) (hj : j < l.length + 2) : goodB (putL l i j) = noCrossB (putL l i j) := by
  have h1 := (good_facts hg).1
  rw [goodB_eq, putL_paired hg hij hj, putL_length]
  simp [show (l.length + 2) % 2 = 0 by omega, hl]

def placesCheck (n : Nat) : Bool := (List.range (n + 2)).all fun j => (List.range j).all fun i => placesL n i j == (List.range n).map fun (k : Nat) => widenTo (i : Int) (j : Int) (k : Int)
theorem placesCheck_all : (List.range 11).all placesCheck = true := by kernel_rfl

theorem places_get {n i j : Nat} (hn : n ≤ 10) (hij : i < j) (hj : j < n + 2) (k : Nat) (hk : k < n) : (placesL n i j).getD k 0 = widenTo (i : Int) (j : Int) (k : Int) := by
  have h := List.all_eq_true.1 placesCheck_all n (List.mem_range.2 (by omega))
  have h1 := List.all_eq_true.1 (List.all_eq_true.1 h j (List.mem_range.2 hj)) i (List.mem_range.2 hij)
  rw [beq_iff_eq] at h1
  rw [h1]
  simp [List.getD, hk]

theorem putS_eq {l : List Int} (hg : goodB l = true) (hl : l.length ≤ 10) {i j : Nat} (hij : i < j) (hj : j < l.length + 2) : ∀ m, m ≤ l.length → putS l i j m = drawL (widenTo (i : Int) (j : Int)) (((List.replicate (l.length + 2) 0).set i (j : Int)).set j (i : Int)) l m
  | 0, _ => rfl
  | m + 1, h => by
    have h2 := (good_facts hg).2.2.1 m (by omega)
    obtain ⟨x, hx⟩ := Int.eq_ofNat_of_zero_le h2.1
    rw [putS, drawL, putS_eq hg hl hij hj m (by omega), places_get hl hij hj m (by omega), hx, Int.toNat_natCast, places_get hl hij hj x (by omega)]

end Go.Proofs.Ytbinpefogecgmab
