/- Plain mathematics: a curve followed arc by arc, and put in order. -/
import Derived.Test.YtgaaddfipkdlaaaWeedArcs
namespace Go.Proofs.Ytgaaddfipkdlaaa
set_option linter.unusedSimpArgs false
set_option linter.unusedVariables false

def ascL (l : List Int) : List Int := l.mergeSort (fun x y => decide (x ≤ y))
theorem ascL_len (l : List Int) : (ascL l).length = l.length := by simp [ascL]
theorem sorted_eqI : ∀ (a b : List Int), a.Pairwise (· < ·) → b.Pairwise (· < ·) → (∀ x, x ∈ a ↔ x ∈ b) → a = b
  | [], [], _, _, _ => rfl
  | [], y :: b, _, _, h => by have := (h y).2 (by simp); simp at this
  | x :: a, [], _, _, h => by have := (h x).1 (by simp); simp at this
  | x :: a, y :: b, ha, hb, h => by
    have hx := (h x).1 (by simp)
    have hy := (h y).2 (by simp)
    rw [List.pairwise_cons] at ha hb
    have e : x = y := by
      rcases List.mem_cons.1 hx with e | e
      · exact e
      rcases List.mem_cons.1 hy with e' | e'
      · exact e'.symm
      have := ha.1 _ e'; have := hb.1 _ e; omega
    subst e
    congr 1
    refine sorted_eqI a b ha.2 hb.2 fun z => ?_
    have := h z
    simp only [List.mem_cons] at this
    constructor
    · intro hz
      rcases this.1 (.inr hz) with rfl | h2
      · have := ha.1 _ hz; omega
      · exact h2
    · intro hz
      rcases this.2 (.inr hz) with rfl | h2
      · have := hb.1 _ hz; omega
      · exact h2
theorem natL_mem {l : List Nat} {x : Int} : x ∈ natL l ↔ ∃ j, j ∈ l ∧ (j : Int) = x := by simp [natL]
theorem natL_in {l : List Nat} {j : Nat} : (j : Int) ∈ natL l ↔ j ∈ l := by
  rw [natL_mem]; exact ⟨fun ⟨k, hk, e⟩ => by obtain rfl : k = j := by omega
                                             exact hk, fun h => ⟨j, h, rfl⟩⟩
theorem natL_len (l : List Nat) : (natL l).length = l.length := by simp [natL]
theorem natL_get {l : List Nat} {k : Nat} (h : k < l.length) : (natL l).getD k 0 = (l.getD k 0 : Nat) := by simp [natL, List.getD, h]
theorem natL_put (l : List Nat) (j : Nat) : natL (l ++ [j]) = natL l ++ [(j : Int)] := by simp [natL]
theorem natL_pairwise {l : List Nat} (h : l.Pairwise (· < ·)) : (natL l).Pairwise (· < ·) := by
  unfold natL; rw [List.pairwise_map]; exact h.imp fun h => by omega
theorem asc_pair {l : List Int} (h : l.Nodup) : (ascL l).Pairwise (· < ·) := by
  have hs : (ascL l).Pairwise (fun x y => decide (x ≤ y) = true) := List.pairwise_mergeSort (fun a b c h1 h2 => by simp at *; omega) (fun a b => by simp; omega) l
  have hn : (ascL l).Nodup := (List.mergeSort_perm l _).nodup_iff.2 h
  exact (hs.and hn).imp fun ⟨h1, h2⟩ => by simp at h1; omega
variable {n : Nat} {T B : Nat → Nat}
theorem asc_met {i k : Nat} {ps : List Nat} (h : Met n T B i k ps) (hk : ps.length ≤ k) : ascL (natL ps) = natL (comp n T B i) := by
  have hnd : (natL ps).Nodup := by
    unfold natL List.Nodup; rw [List.pairwise_map]; exact h.nodup.imp fun h => by omega
  refine sorted_eqI _ _ (asc_pair hnd) (natL_pairwise (comp_sorted i)) fun x => ?_
  rw [show x ∈ ascL (natL ps) ↔ x ∈ natL ps from (List.mergeSort_perm (natL ps) _).mem_iff, natL_mem, natL_mem]
  exact exists_congr fun j => and_congr_left' (by rw [h.closed hk j, mem_comp])
theorem endB_mem {a b : List Nat} (h : ∀ j, j ∈ a ↔ j ∈ b) : endB T B a = endB T B b := by
  unfold endB
  rw [Bool.eq_iff_iff, List.any_eq_true, List.any_eq_true]
  exact exists_congr fun j => and_congr_left' (h j)
theorem end_met {i k : Nat} {ps : List Nat} (h : Met n T B i k ps) (hk : ps.length ≤ k) : endB T B (ps.take k) = endB T B (comp n T B i) := by
  rw [List.take_of_length_le hk]
  exact endB_mem fun j => by rw [h.closed hk j, mem_comp]
theorem putNew_take {ps : List Nat} {x m : Nat} (h : m ≤ ps.length) : (putNew ps x).take m = ps.take m := by
  unfold putNew; split
  · rfl
  · rw [List.take_append_of_le_length h]
/-- the two sides of one point, one behind the other -/
def sideN (T B : Nat → Nat) (m : Nat) : Nat → Nat := if m = 0 then T else B
def stepP (T B : Nat → Nat) (a : Nat) (ps : List Nat) : Nat → List Nat
  | 0 => ps
  | m + 1 => putNew (stepP T B a ps m) (sideN T B m a)
def stepE (T B : Nat → Nat) (a : Nat) (e : Bool) : Nat → Bool
  | 0 => e
  | m + 1 => stepE T B a e m || (sideN T B m a == a)
theorem stepP_len {a : Nat} {ps : List Nat} : ∀ m, ps.length ≤ (stepP T B a ps m).length
  | 0 => Nat.le_refl _
  | m + 1 => Nat.le_trans (stepP_len m) putNew_len
theorem putNew_max {ps : List Nat} {x : Nat} : (putNew ps x).length ≤ ps.length + 1 := by
  unfold putNew
  split
  · omega
  · simp
theorem stepP_max {a : Nat} {ps : List Nat} : ∀ m, (stepP T B a ps m).length ≤ ps.length + m
  | 0 => Nat.le_refl _
  | m + 1 => by
    have h1 := stepP_max (a := a) (ps := ps) m
    have h2 : (stepP T B a ps (m + 1)).length ≤ (stepP T B a ps m).length + 1 := putNew_max
    omega
theorem step_met {i k : Nat} {ps : List Nat} (hT : Inv n T) (hB : Inv n B) (h : Met n T B i k ps) (hk : k < ps.length) : Met n T B i (k + 1) (stepP T B (ps.getD k 0) ps 2) := h.next hT hB hk
theorem step_end {k : Nat} {ps : List Nat} (hk : k < ps.length) : stepE T B (ps.getD k 0) (endB T B (ps.take k)) 2 = endB T B ((stepP T B (ps.getD k 0) ps 2).take (k + 1)) := by
  have e : (stepP T B (ps.getD k 0) ps 2).take (k + 1) = ps.take (k + 1) := by
    show (putNew (putNew ps _) _).take (k + 1) = _
    rw [putNew_take (Nat.le_trans (by omega : k + 1 ≤ ps.length) putNew_len), putNew_take (by omega)]
  have e2 : ps.take (k + 1) = ps.take k ++ [ps.getD k 0] := by
    rw [List.take_succ_eq_append_getElem hk]; simp [List.getD, hk]
  rw [e, e2]
  simp [endB, stepE, sideN, Bool.or_assoc]
/-- the first point of a strand tells whether it is told here -/
theorem comp_head {i : Nat} (hi : i < n) : ∃ x l, comp n T B i = x :: l ∧ firstB (comp n T B i) i = decide ((x : Int) = i) := by
  cases h : comp n T B i with
  | nil => exact absurd (mem_comp.2 ⟨hi, .refl i⟩) (by rw [h]; simp)
  | cons x l => exact ⟨x, l, rfl, by unfold firstB; simp only [List.head?_cons]; rw [Bool.eq_iff_iff]; simp; omega⟩
end Go.Proofs.Ytgaaddfipkdlaaa
