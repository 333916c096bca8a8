/- RankMeander: what is true of the list of meanders. -/
import Derived.Test.YtodbjkfikbkkbabPairEq
namespace Go.Proofs.Ytodbjkfikbkkbab
open Go.RowKit
set_option linter.unusedSimpArgs false
set_option linter.unusedVariables false

def nodupB : List (List Int × List Int) → Bool
  | [] => true
  | p :: r => !(r.contains p) && nodupB r
theorem nodupB_ne : ∀ (L : List (List Int × List Int)), nodupB L = true → ∀ i j, i < j → j < L.length → L.getD i ([], []) ≠ L.getD j ([], [])
  | [], _, i, j, _, h => by simp at h
  | p :: r, h, i, j, hij, hj => by
    simp only [nodupB, Bool.and_eq_true, Bool.not_eq_true'] at h
    cases j with
    | zero => omega
    | succ j =>
      have hj' : j < r.length := by simpa using hj
      cases i with
      | zero =>
        intro e
        have hm : r.getD j ([], []) ∈ r := by simp [List.getD, hj']
        have e2 : p = r.getD j ([], []) := e
        rw [← e2] at hm
        have := h.1
        rw [Bool.eq_false_iff] at this
        exact this (List.contains_iff_mem.2 hm)
      | succ i => exact nodupB_ne r h.2 i j (by omega) hj'
theorem mcJ_nodup_check : (List.range 5).all (fun n => nodupB (mcJ n (allL n))) = true := by kernel_rfl
theorem mcJ_ne {n : Nat} (hn : n ≤ 4) {i j : Nat} (h : i ≠ j) (hi : i < (mcJ n (allL n)).length) (hj : j < (mcJ n (allL n)).length) : (mcJ n (allL n)).getD i ([], []) ≠ (mcJ n (allL n)).getD j ([], []) := by
  have h1 := List.all_eq_true.1 mcJ_nodup_check n (List.mem_range.2 (by omega))
  rcases Nat.lt_or_gt_of_ne h with h2 | h2
  · exact nodupB_ne _ h1 i j h2 hj
  · exact fun e => nodupB_ne _ h1 j i h2 hi e.symm
theorem mcJ_one {n : Nat} {p : List Int × List Int} (h : p ∈ mcJ n (allL n)) : compsL p.1 p.2 = 1 := by
  rw [← among_pairsN] at h
  have := (List.mem_filter.1 h).2
  simpa [isOne] using this
theorem mcJ_in {n : Nat} {t b : List Int} (ht : t ∈ allL n) (hb : b ∈ allL n) (h : compsL t b = 1) : (t, b) ∈ mcJ n (allL n) := by
  rw [← among_pairsN]
  refine List.mem_filter.2 ⟨?_, by simp [isOne, h]⟩
  simp only [pairsN, upJ, List.mem_flatMap, List.mem_map]
  exact ⟨t, ht, b, hb, rfl⟩

theorem sys_in_check : (List.range 5).all (fun n => (sysAll n).all (fun l => (allL n).contains l)) = true := by kernel_rfl
theorem good_mem {l : List Int} (h : goodB l = true) (h4 : l.length / 2 ≤ 4) : l ∈ allL (l.length / 2) := by
  have h1 := List.all_eq_true.1 sys_in_check (l.length / 2) (List.mem_range.2 (by omega))
  exact List.contains_iff_mem.1 (List.all_eq_true.1 h1 l (mem_sysAll h))
/-- the place of a pair in a list -/
def posP (p : List Int × List Int) : List (List Int × List Int) → Nat
  | [] => 0
  | q :: r => if q = p then 0 else posP p r + 1
theorem posP_eq (p : List Int × List Int) : ∀ (L : List (List Int × List Int)) (i : Nat), i < L.length → L.getD i ([], []) = p → (∀ j, j < i → L.getD j ([], []) ≠ p) → posP p L = i
  | [], i, h, _, _ => by simp at h
  | q :: r, 0, _, e, _ => by
    have : q = p := e
    simp [posP, this]
  | q :: r, i + 1, h, e, hn => by
    have h0 : q ≠ p := hn 0 (by omega)
    have := posP_eq p r i (by simpa using h) e (fun j hj => hn (j + 1) (by omega))
    simp [posP, h0, this]

end Go.Proofs.Ytodbjkfikbkkbab
