/- Plain mathematics: all parts of a sum; indices counted. -/
import Derived.Test.YtgaaddfipkdlaaaStrandW
namespace Go.Proofs.Ytgaaddfipkdlaaa
set_option linter.unusedSimpArgs false
set_option linter.unusedVariables false

def allPF : Nat → Nat → List (List Int)
  | 0, _ => [[]]
  | f + 1, n => if n = 0 then [[]] else (List.range n).flatMap (fun i => (allPF f (n - (i + 1))).map (fun r => ((i + 1 : Nat) : Int) :: r))
def rowsPF (f n i : Nat) : List (List Int) := (allPF f (n - (i + 1))).map (fun r => ((i + 1 : Nat) : Int) :: r)
def outPF (f n k : Nat) : List (List Int) := (List.range k).flatMap (rowsPF f n)
theorem outPF_zero (f n : Nat) : outPF f n 0 = [] := by simp [outPF]
theorem outPF_succ (f n k : Nat) : outPF f n (k + 1) = outPF f n k ++ rowsPF f n k := by
  unfold outPF; rw [List.range_succ, List.flatMap_append]; simp
theorem outPF_all {f n : Nat} (h : n ≠ 0) : allPF (f + 1) n = outPF f n n := by rw [allPF, if_neg h]; rfl
theorem allPF_zero (f : Nat) : allPF f 0 = [[]] := by cases f <;> simp [allPF]
def chkP (f n : Nat) : Bool := decide ((allPF f n).length ≤ 64) && (allPF f n).all (fun p => decide (p.length ≤ 7))
theorem chkP_all : ((List.range 8).all fun f => (List.range 8).all fun n => chkP f n) = true := by kernel_rfl
theorem chkP_of {f n : Nat} (hf : f ≤ 7) (hn : n ≤ 7) : (allPF f n).length ≤ 64 ∧ ∀ p ∈ allPF f n, p.length ≤ 7 := by
  have h := List.all_eq_true.1 (List.all_eq_true.1 chkP_all f (List.mem_range.2 (by omega))) n (List.mem_range.2 (by omega))
  unfold chkP at h
  rw [Bool.and_eq_true, decide_eq_true_iff, List.all_eq_true] at h
  exact ⟨h.1, fun p hp => of_decide_eq_true (h.2 p hp)⟩
theorem outPF_len {f n k : Nat} (hf : f ≤ 6) (hn : n ≤ 7) (hk : k ≤ 7) : (outPF f n k).length ≤ 64 * k := by
  induction k with
  | zero => simp [outPF]
  | succ k ih =>
    rw [outPF_succ, List.length_append]
    have h1 := ih (by omega)
    have h2 := (chkP_of (f := f) (n := n - (k + 1)) (by omega) (by omega)).1
    have h3 : (rowsPF f n k).length = (allPF f (n - (k + 1))).length := by simp [rowsPF]
    omega
def goodPF (n : Nat) : Bool := (allPF 7 n).all (fun p => partsB p && decide (p.sum = (n : Int)))
theorem goodPF_all : ((List.range 8).all goodPF) = true := by kernel_rfl
theorem allP_good {n : Nat} (hn : n ≤ 7) : ∀ p ∈ allPF 7 n, partsB p = true ∧ p.sum = (n : Int) := by
  intro p hp
  have h := List.all_eq_true.1 goodPF_all n (List.mem_range.2 (by omega))
  unfold goodPF at h
  have := List.all_eq_true.1 h p hp
  rw [Bool.and_eq_true] at this
  exact ⟨this.1, of_decide_eq_true this.2⟩
theorem allP_weed {n : Nat} (hn : n ≤ 7) {t b : List Int} (ht : t ∈ allPF 7 n) (hb : b ∈ allPF 7 n) : weedB t b = true := by
  have h1 := allP_good hn t ht; have h2 := allP_good hn b hb
  unfold weedB
  rw [h1.1, h2.1, h1.2, h2.2]; simp
theorem getD_memL {L : List (List Int)} {k : Nat} (h : k < L.length) : L.getD k [] ∈ L := by simp [List.getD, h]

/-- counting -/
def tallyI (z : List Int) (is : List Nat) : List Int := is.foldl (fun c i => c.set i (c.getD i 0 + 1)) z
theorem tally_snoc (z : List Int) (is : List Nat) (i : Nat) : tallyI z (is ++ [i]) = (tallyI z is).set i ((tallyI z is).getD i 0 + 1) := by simp [tallyI]
theorem tally_len : ∀ (is : List Nat) (z : List Int), (tallyI z is).length = z.length
  | [], _ => rfl
  | i :: is, z => by
    show (tallyI _ is).length = _
    rw [tally_len is]; simp
theorem tally_bd : ∀ (is : List Nat) (z : List Int) (j : Nat), z.getD j 0 ≤ (tallyI z is).getD j 0 ∧ (tallyI z is).getD j 0 ≤ z.getD j 0 + is.length
  | [], z, j => by simp [tallyI]
  | i :: is, z, j => by
    have h := tally_bd is (z.set i (z.getD i 0 + 1)) j
    have e : (tallyI z (i :: is)) = tallyI (z.set i (z.getD i 0 + 1)) is := rfl
    rw [e]
    have h2 : z.getD j 0 ≤ (z.set i (z.getD i 0 + 1)).getD j 0 ∧ (z.set i (z.getD i 0 + 1)).getD j 0 ≤ z.getD j 0 + 1 := by
      rcases Nat.lt_or_ge i z.length with hl | hl
      · by_cases e : i = j
        · subst e
          rw [show (z.set i (z.getD i 0 + 1)).getD i 0 = z.getD i 0 + 1 by simp [List.getD, hl]]; omega
        · rw [show (z.set i (z.getD i 0 + 1)).getD j 0 = z.getD j 0 by simp [List.getD, e]]; omega
      · rw [List.set_eq_of_length_le hl]; omega
    have h3 : ((i :: is).length : Int) = (is.length : Int) + 1 := by simp
    omega
theorem tally_zero (m j : Nat) (is : List Nat) : 0 ≤ (tallyI (List.replicate m 0) is).getD j 0 ∧ (tallyI (List.replicate m 0) is).getD j 0 ≤ is.length := by
  have h := tally_bd is (List.replicate m 0) j
  have e : (List.replicate m (0 : Int)).getD j 0 = 0 := by simp [List.getD, List.getElem?_replicate]; split <;> rfl
  rw [e] at h; omega

noncomputable def idxW (t b : List Int) : Nat := 2 * weedCycles t b + weedPaths t b - 1
theorem first_zero {n : Nat} {T B : Nat → Nat} (hn : 0 < n) : 1 ≤ (curvesFrom n T B 1).length := by
  have h : firstB (comp n T B 0) 0 = true := (first_iff hn).2 (fun j hj => by omega)
  simp [curvesFrom, h]
theorem curves_mono {n : Nat} {T B : Nat → Nat} : ∀ k, 1 ≤ k → (curvesFrom n T B 1).length ≤ (curvesFrom n T B k).length
  | 0, h => by omega
  | 1, _ => Nat.le_refl _
  | k + 2, _ => by
    have := curves_mono (n := n) (T := T) (B := B) (k + 1) (by omega)
    have e : curvesFrom n T B (k + 2) = curvesFrom n T B (k + 1) ++ (if firstB (comp n T B (k + 1)) (k + 1) then [(comp n T B (k + 1), endB T B (comp n T B (k + 1)))] else []) := rfl
    rw [e, List.length_append]; omega
theorem idx_facts {n : Nat} (h1 : 1 ≤ n) (hn : n ≤ 7) {t b : List Int} (ht : t ∈ allPF 7 n) (hb : b ∈ allPF 7 n) :
    2 * (weedCycles t b : Int) + (weedPaths t b : Nat) - 1 = (idxW t b : Nat) ∧ idxW t b < 2 * n + 1 ∧ weedPaths t b + weedCycles t b ≤ 20 := by
  have hs := (allP_good hn t ht).2
  have hsn : t.sum.toNat = n := by omega
  have hc := weed_count t b
  have hle := weed_count_le t b
  rw [hsn] at hle
  have hge : 1 ≤ (weedCurves t b).length := by
    unfold weedCurves curvesOf
    rw [hsn]
    exact Nat.le_trans (first_zero (by omega)) (curves_mono n h1)
  unfold idxW
  omega
noncomputable def idxRow (t : List Int) (L : List (List Int)) : List Nat := L.map (idxW t)
noncomputable def idxAll (L : List (List Int)) (k : Nat) : List Nat := (L.take k).flatMap (fun t => idxRow t L)
theorem idxAll_zero (L : List (List Int)) : idxAll L 0 = [] := by simp [idxAll]
theorem idxAll_succ (L : List (List Int)) {k : Nat} (h : k < L.length) : idxAll L (k + 1) = idxAll L k ++ idxRow (L.getD k []) L := by
  unfold idxAll
  rw [List.take_add_one, List.getElem?_eq_getElem h, Option.toList_some, List.flatMap_append]; simp [List.getD, h]
theorem idxRow_take (t : List Int) (L : List (List Int)) {c : Nat} (h : c < L.length) : idxRow t (L.take (c + 1)) = idxRow t (L.take c) ++ [idxW t (L.getD c [])] := by
  unfold idxRow
  rw [List.take_add_one, List.getElem?_eq_getElem h, Option.toList_some, List.map_append]; simp [List.getD, h]
theorem idxAll_len (L : List (List Int)) : ∀ k, k ≤ L.length → (idxAll L k).length = k * L.length
  | 0, _ => by simp [idxAll]
  | k + 1, h => by
    rw [idxAll_succ L (by omega), List.length_append, idxAll_len L k (by omega)]
    simp only [idxRow, List.length_map, Nat.succ_mul]
def ok_CountByIndex (x : Int) : Bool := inB x 1 7
noncomputable def res_CountByIndex (x : Int) : List Int := if inB x 1 7 = true then tallyI (List.replicate (2 * x.toNat + 1) 0) (idxAll (allPF 7 x.toNat) (allPF 7 x.toNat).length) else []
theorem len_CountByIndex (x : Int) : (res_CountByIndex x).length ≤ 1000000 := by
  unfold res_CountByIndex
  by_cases h : 1 ≤ x ∧ x ≤ 7
  · rw [inB_yes h.1 h.2, if_pos rfl, tally_len, List.length_replicate]; omega
  · rw [inB_no h]; simp
end Go.Proofs.Ytgaaddfipkdlaaa
