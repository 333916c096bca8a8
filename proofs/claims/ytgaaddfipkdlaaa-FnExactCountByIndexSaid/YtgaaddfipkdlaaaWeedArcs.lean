/- Plain mathematics: arcs of parts lead back; what is reached by them. -/
import Derived.Test.YtgaaddfipkdlaaaReach
namespace Go.Proofs.Ytgaaddfipkdlaaa
set_option linter.unusedSimpArgs false
set_option linter.unusedVariables false

theorem getD_left {a b : List Int} {j : Nat} (h : j < a.length) : (a ++ b).getD j 0 = a.getD j 0 := by simp [List.getD, List.getElem?_append_left h]
theorem getD_right {a b : List Int} {j : Nat} : (a ++ b).getD (a.length + j) 0 = b.getD j 0 := by simp [List.getD, List.getElem?_append_right]
theorem arcBlock_get {f p : Int} {m j : Nat} (h : j < m) : (arcBlock f p m).getD j 0 = f + (p - 1 - j) := by simp [arcBlock, List.getD, h]
theorem arcs_back : ∀ (l : List Int) (f : Int), (∀ x ∈ l, 1 ≤ x) → ∀ j, j < (arcsFrom f l).length → ∃ i, i < (arcsFrom f l).length ∧ (arcsFrom f l).getD j 0 = f + i ∧ (arcsFrom f l).getD i 0 = f + j
  | [], f, _, j, hj => by simp [arcsFrom] at hj
  | p :: l, f, h, j, hj => by
    have hp := h p (by simp)
    have ih := arcs_back l (f + p) (fun x hx => h x (by simp [hx]))
    have hb := arcBlock_length f p p.toNat
    simp only [arcsFrom, List.length_append] at hj ⊢
    by_cases hlt : j < p.toNat
    · refine ⟨p.toNat - 1 - j, by omega, ?_, ?_⟩
      · rw [getD_left (by omega), arcBlock_get hlt]; omega
      · rw [getD_left (by omega), arcBlock_get (by omega)]; omega
    · obtain ⟨d, rfl⟩ : ∃ d, j = (arcBlock f p p.toNat).length + d := ⟨j - p.toNat, by omega⟩
      obtain ⟨i, h1, h2, h3⟩ := ih d (by omega)
      refine ⟨(arcBlock f p p.toNat).length + i, by omega, ?_, ?_⟩
      · rw [getD_right, h2]; omega
      · rw [getD_right, h3]; omega
/-- the point to which an arc of parts leads -/
def arcN (l : List Int) (j : Nat) : Nat := ((arcsL l).getD j 0).toNat
theorem arcs_len {l : List Int} (h : partsB l = true) : (arcsL l).length = l.sum.toNat := by have := arcs_length h; omega
theorem arcs_at {l : List Int} (h : partsB l = true) {j : Nat} (hj : j < l.sum.toNat) : (arcsL l).getD j 0 = (arcN l j : Nat) ∧ arcN l j < l.sum.toNat := by
  obtain ⟨i, h1, h2, h3⟩ := arcs_back l 0 (parts_facts h).1 j (by have := arcs_len h; unfold arcsL at this; omega)
  have e := arcs_len h
  unfold arcN; unfold arcsL at *
  rw [h2]; omega
theorem arcs_inv {l : List Int} (h : partsB l = true) : Inv l.sum.toNat (arcN l) := fun j hj => by
  obtain ⟨i, h1, h2, h3⟩ := arcs_back l 0 (parts_facts h).1 j (by have := arcs_len h; unfold arcsL at this; omega)
  have e := arcs_len h
  have ei : arcN l j = i := by unfold arcN arcsL; rw [h2]; omega
  refine ⟨by rw [ei]; unfold arcsL at e; omega, ?_⟩
  rw [ei]; unfold arcN arcsL; rw [h3]; omega
theorem arcs_range {l : List Int} (h : partsB l = true) : ∀ k, k < (arcsL l).length → 0 ≤ (arcsL l).getD k 0 ∧ (arcsL l).getD k 0 < l.sum := fun k hk => by
  have := arcs_at h (j := k) (by have := arcs_len h; omega)
  have := (parts_facts h).2.2.2
  omega

/-- lists of points as numbers -/
def natL (l : List Nat) : List Int := l.map fun (i : Nat) => (i : Int)
noncomputable def weedCurves (t b : List Int) : List (List Nat × Bool) := curvesOf t.sum.toNat (arcN t) (arcN b)
noncomputable def weedWanted (t b : List Int) (p : Bool) : List (List Int) := (wanted t.sum.toNat (arcN t) (arcN b) p).map natL
noncomputable def weedPaths (t b : List Int) : Nat := (weedWanted t b true).length
noncomputable def weedCycles (t b : List Int) : Nat := (weedWanted t b false).length
theorem split_len : ∀ (l : List (List Nat × Bool)), (l.filter (fun c => c.2 == true)).length + (l.filter (fun c => c.2 == false)).length = l.length
  | [] => rfl
  | (a, true) :: l => by
    have := split_len l
    rw [List.filter_cons_of_pos (by rfl), List.filter_cons_of_neg (by simp)]
    simp only [List.length_cons]; omega
  | (a, false) :: l => by
    have := split_len l
    rw [List.filter_cons_of_neg (by simp), List.filter_cons_of_pos (by rfl)]
    simp only [List.length_cons]; omega
theorem weed_count (t b : List Int) : weedPaths t b + weedCycles t b = (weedCurves t b).length := by
  unfold weedPaths weedCycles weedWanted wanted weedCurves
  simp only [List.length_map]
  exact split_len _
theorem weed_count_le (t b : List Int) : weedPaths t b + weedCycles t b ≤ t.sum.toNat := by
  rw [weed_count]; exact curvesFrom_length _ _ _ _
end Go.Proofs.Ytgaaddfipkdlaaa
