/- The cells of one side of a frontier: what pushing, popping and renaming turn. -/
import Derived.Test.YtnkkgbecdckigacFront
import Derived.Test.YtnkkgbecdckigacJoin
namespace Go.Proofs.Ytnkkgbecdckigac
open Go.RowKit Go.Maps
set_option linter.unusedSimpArgs false
set_option linter.unusedVariables false

/-- the cell i of a frontier -/
def frV (u d : List Int) (c : Int) (i : Nat) : Value :=
  if i < 6 then .int .i64 (u.getD i 0) else if i = 6 then .int .i64 (u.length : Int) else if i < 13 then .int .i64 (d.getD (i - 7) 0) else if i = 13 then .int .i64 (d.length : Int) else .int .i64 c
theorem frC_at {u d : List Int} (c : Int) (hu : u.length ≤ 6) (hd : d.length ≤ 6) (i : Nat) : (frC u d c)[i]? = if i < 15 then some (frV u d c i) else none := by
  simp only [frC, List.getElem?_toArray]
  unfold frV
  by_cases h1 : i < 6
  · rw [if_pos (by omega), if_pos h1, frL_up c hu i (by omega), endL_get hu i h1]
  · by_cases h2 : i = 6
    · subst h2
      rw [if_pos (by omega), if_neg (by omega), if_pos rfl, frL_up c hu 6 (by omega), endL_last hu]
    · by_cases h3 : i < 13
      · obtain ⟨j, rfl⟩ : ∃ j, i = 7 + j := ⟨i - 7, by omega⟩
        rw [if_pos (by omega), if_neg (by omega), if_neg (by omega), if_pos h3, frL_down c hu hd j (by omega), endL_get hd j (by omega), Nat.add_sub_cancel_left]
      · by_cases h4 : i = 13
        · subst h4
          rw [if_pos (by omega), if_neg (by omega), if_neg (by omega), if_neg (by omega), if_pos rfl, show 13 = 7 + 6 by omega, frL_down c hu hd 6 (by omega), endL_last hd]
        · by_cases h5 : i = 14
          · subst h5
            rw [if_pos (by omega), if_neg (by omega), if_neg (by omega), if_neg (by omega), if_neg (by omega), frL_closed c hu hd]
          · rw [if_neg (by omega)]
            exact List.getElem?_eq_none (by rw [frL_len c hu hd]; omega)

/-- a frontier seen from one side: o is 0 above, 7 below -/
def sdC (o : Nat) (l m : List Int) (c : Int) : Array Value := if o = 0 then frC l m c else frC m l c
def sdV (o : Nat) (l m : List Int) (c : Int) (i : Nat) : Value := if o = 0 then frV l m c i else frV m l c i
def SdIn (w : World) (b o : Nat) (l m : List Int) (c : Int) : Prop := w.heap[b]? = some (.cells (sdC o l m c) 66 (0, 0))
theorem sdC_at {o : Nat} {l m : List Int} (c : Int) (hl : l.length ≤ 6) (hm : m.length ≤ 6) (i : Nat) : (sdC o l m c)[i]? = if i < 15 then some (sdV o l m c i) else none := by
  unfold sdC sdV
  split
  · exact frC_at c hl hm i
  · exact frC_at c hm hl i
theorem sdC_size {o : Nat} {l m : List Int} (c : Int) (hl : l.length ≤ 6) (hm : m.length ≤ 6) : (sdC o l m c).size = 15 := by
  unfold sdC; split
  · exact frC_size c hl hm
  · exact frC_size c hm hl
theorem sd_up {w : World} {b : Nat} {u d : List Int} {c : Int} : SdIn w b 0 u d c ↔ FrIn w b u d c := Iff.rfl
theorem sd_down {w : World} {b : Nat} {u d : List Int} {c : Int} : SdIn w b 7 d u c ↔ FrIn w b u d c := Iff.rfl
theorem SdIn.at {w : World} {b o : Nat} {l m : List Int} {c : Int} (h : SdIn w b o l m c) (hl : l.length ≤ 6) (hm : m.length ≤ 6) (i : Nat) (hi : i < 15) : w.cell? ⟨b, i, none⟩ = some (sdV o l m c i) := by
  rw [cell_of_row w b i _ _ _ h, sdC_at c hl hm, if_pos hi]
theorem SdIn.free {w : World} {b o : Nat} {l m : List Int} {c : Int} (h : SdIn w b o l m c) (i : Nat) : w.frozen? ⟨b, i, none⟩ = false := frozen_of_row w b i _ _ h
theorem sdV_part {o : Nat} (ho : o = 0 ∨ o = 7) (l m : List Int) (c : Int) (i : Nat) (hi : i < 6) : sdV o l m c (o + i) = .int .i64 (l.getD i 0) := by
  unfold sdV frV
  rcases ho with rfl | rfl
  · rw [if_pos rfl, Nat.zero_add, if_pos hi]
  · rw [if_neg (by omega), if_neg (by omega), if_neg (by omega), if_pos (by omega), Nat.add_sub_cancel_left]
theorem sdV_size {o : Nat} (ho : o = 0 ∨ o = 7) (l m : List Int) (c : Int) : sdV o l m c (o + 6) = .int .i64 (l.length : Int) := by
  unfold sdV frV
  rcases ho with rfl | rfl <;> simp
theorem frV_up (u u' d : List Int) (c : Int) (i : Nat) (hi : 6 < i) : frV u d c i = frV u' d c i := by
  have h1 : ¬ i < 6 := by omega
  have h2 : ¬ i = 6 := by omega
  unfold frV
  simp only [h1, h2, if_false]
theorem frV_down (u d d' : List Int) (c : Int) (i : Nat) (hi : i < 7 ∨ 13 < i) : frV u d c i = frV u d' c i := by
  unfold frV
  by_cases h1 : i < 6
  · simp only [h1, if_true]
  · by_cases h2 : i = 6
    · simp only [h1, h2, if_true, if_false]
    · have h3 : ¬ i < 13 := by omega
      have h4 : ¬ i = 13 := by omega
      simp only [h1, h2, h3, h4, if_false]
/-- outside of the side nothing turns with its list -/
theorem sdV_other {o : Nat} (ho : o = 0 ∨ o = 7) (l l' m : List Int) (c : Int) (i : Nat) (hi : ¬ (o ≤ i ∧ i ≤ o + 6)) : sdV o l m c i = sdV o l' m c i := by
  unfold sdV
  rcases ho with rfl | rfl
  · rw [if_pos rfl, if_pos rfl]; exact frV_up _ _ _ _ _ (by omega)
  · rw [if_neg (by omega), if_neg (by omega)]; exact frV_down _ _ _ _ _ (by omega)
theorem set_at (A : Array Value) (k : Nat) (x : Value) (i : Nat) (hk : k < A.size) : (A.setIfInBounds k x)[i]? = if k = i then some x else A[i]? := by
  by_cases h : k = i
  · subst h; rw [if_pos rfl, Array.getElem?_setIfInBounds_self_of_lt hk]
  · rw [if_neg h, Array.getElem?_setIfInBounds_ne h]
theorem getD_snoc (l : List Int) (x : Int) (i : Nat) : (l ++ [x]).getD i 0 = if i = l.length then x else l.getD i 0 := by
  simp only [List.getD, List.getElem?_append]
  by_cases h : i < l.length
  · rw [if_pos h, if_neg (by omega)]
  · rw [if_neg h]
    by_cases h2 : i = l.length
    · subst h2; simp
    · rw [if_neg h2]
      rw [List.getElem?_eq_none (by simp; omega), List.getElem?_eq_none (by omega)]
theorem getD_past (l : List Int) (i : Nat) (h : l.length ≤ i) : l.getD i 0 = 0 := by simp [List.getD, List.getElem?_eq_none h]
theorem sd_push {w : World} {b o : Nat} (ho : o = 0 ∨ o = 7) {l m : List Int} {c : Int} (x : Int) (hl : l.length < 6) (hm : m.length ≤ 6) (h : SdIn w b o l m c) :
    SdIn ((w.setCell ⟨b, o + l.length, none⟩ (.int .i64 x)).setCell ⟨b, o + 6, none⟩ (.int .i64 ((l.length : Int) + 1))) b o (l ++ [x]) m c := by
  have hs : (sdC o l m c).size = 15 := sdC_size c (by omega) hm
  have h1 := heap_setCell_same w b (o + l.length) _ _ (.int .i64 x) h
  have h2 := heap_setCell_same _ b (o + 6) _ _ (.int .i64 ((l.length : Int) + 1)) h1
  unfold SdIn
  rw [h2]
  congr 2
  apply Array.ext_getElem?
  intro i
  have hlx : (l ++ [x]).length ≤ 6 := by simp; omega
  rw [set_at _ _ _ _ (by rw [Array.size_setIfInBounds, hs]; omega), set_at _ _ _ _ (by rw [hs]; omega), sdC_at c (by omega) hm, sdC_at c hlx hm]
  by_cases e1 : o + 6 = i
  · subst e1
    rw [if_pos rfl, if_pos (by omega), sdV_size ho]
    simp
  · rw [if_neg e1]
    by_cases e2 : o + l.length = i
    · subst e2
      rw [if_pos rfl, if_pos (by omega), sdV_part ho _ _ _ _ hl, getD_snoc, if_pos rfl]
    · rw [if_neg e2]
      by_cases h15 : i < 15
      · rw [if_pos h15, if_pos h15]
        by_cases hin : o ≤ i ∧ i ≤ o + 6
        · obtain ⟨j, rfl⟩ : ∃ j, i = o + j := ⟨i - o, by omega⟩
          rw [sdV_part ho _ _ _ j (by omega), sdV_part ho _ _ _ j (by omega), getD_snoc, if_neg (by omega)]
        · rw [sdV_other ho l (l ++ [x]) m c i hin]
      · rw [if_neg h15, if_neg h15]
theorem sd_pop {w : World} {b o : Nat} (ho : o = 0 ∨ o = 7) {l m : List Int} {c : Int} {x : Int} (hl : l.length < 6) (hm : m.length ≤ 6) (h : SdIn w b o (l ++ [x]) m c) :
    SdIn ((w.setCell ⟨b, o + 6, none⟩ (.int .i64 (l.length : Int))).setCell ⟨b, o + l.length, none⟩ (.int .i64 0)) b o l m c := by
  have hlx : (l ++ [x]).length ≤ 6 := by simp; omega
  have hs : (sdC o (l ++ [x]) m c).size = 15 := sdC_size c hlx hm
  have h1 := heap_setCell_same w b (o + 6) _ _ (.int .i64 (l.length : Int)) h
  have h2 := heap_setCell_same _ b (o + l.length) _ _ (.int .i64 0) h1
  unfold SdIn
  rw [h2]
  congr 2
  apply Array.ext_getElem?
  intro i
  rw [set_at _ _ _ _ (by rw [Array.size_setIfInBounds, hs]; omega), set_at _ _ _ _ (by rw [hs]; omega), sdC_at c hlx hm, sdC_at c (by omega) hm]
  by_cases e2 : o + l.length = i
  · subst e2
    rw [if_pos rfl, if_pos (by omega), sdV_part ho _ _ _ _ hl, getD_past _ _ (Nat.le_refl _)]
  · rw [if_neg e2]
    by_cases e1 : o + 6 = i
    · subst e1
      rw [if_pos rfl, if_pos (by omega), sdV_size ho]
    · rw [if_neg e1]
      by_cases h15 : i < 15
      · rw [if_pos h15, if_pos h15]
        by_cases hin : o ≤ i ∧ i ≤ o + 6
        · obtain ⟨j, rfl⟩ : ∃ j, i = o + j := ⟨i - o, by omega⟩
          rw [sdV_part ho _ _ _ j (by omega), sdV_part ho _ _ _ j (by omega), getD_snoc, if_neg (by omega)]
        · rw [sdV_other ho (l ++ [x]) l m c i hin]
      · rw [if_neg h15, if_neg h15]
theorem sd_set {w : World} {b o : Nat} (ho : o = 0 ∨ o = 7) {l m : List Int} {c : Int} (k : Nat) (x : Int) (hk : k < l.length) (hl : l.length ≤ 6) (hm : m.length ≤ 6) (h : SdIn w b o l m c) :
    SdIn (w.setCell ⟨b, o + k, none⟩ (.int .i64 x)) b o (l.set k x) m c := by
  have hs : (sdC o l m c).size = 15 := sdC_size c hl hm
  have h1 := heap_setCell_same w b (o + k) _ _ (.int .i64 x) h
  unfold SdIn
  rw [h1]
  congr 2
  apply Array.ext_getElem?
  intro i
  have hlx : (l.set k x).length ≤ 6 := by simp; exact hl
  rw [set_at _ _ _ _ (by rw [hs]; omega), sdC_at c hl hm, sdC_at c hlx hm]
  by_cases e2 : o + k = i
  · subst e2
    rw [if_pos rfl, if_pos (by omega), sdV_part ho _ _ _ _ (by omega)]
    simp [List.getD, hk]
  · rw [if_neg e2]
    by_cases h15 : i < 15
    · rw [if_pos h15, if_pos h15]
      by_cases hin : o ≤ i ∧ i ≤ o + 6
      · obtain ⟨j, rfl⟩ : ∃ j, i = o + j := ⟨i - o, by omega⟩
        by_cases h6 : j = 6
        · subst h6; rw [sdV_size ho, sdV_size ho, List.length_set]
        · rw [sdV_part ho _ _ _ j (by omega), sdV_part ho _ _ _ j (by omega)]
          simp only [List.getD]
          rw [List.getElem?_set_ne (by omega)]
      · rw [sdV_other ho l (l.set k x) m c i hin]
    · rw [if_neg h15, if_neg h15]
theorem fr_close {w : World} {b : Nat} {u d : List Int} {c : Int} (x : Int) (hu : u.length ≤ 6) (hd : d.length ≤ 6) (h : FrIn w b u d c) : FrIn (w.setCell ⟨b, 14, none⟩ (.int .i64 x)) b u d x := by
  have h1 := heap_setCell_same w b 14 _ _ (.int .i64 x) h
  unfold FrIn
  rw [h1]
  congr 2
  apply Array.ext_getElem?
  intro i
  rw [set_at _ _ _ _ (by rw [frC_size c hu hd]; omega), frC_at c hu hd, frC_at x hu hd]
  by_cases e : 14 = i
  · subst e; rw [if_pos rfl, if_pos (by omega)]; rfl
  · rw [if_neg e]
    by_cases h15 : i < 15
    · rw [if_pos h15, if_pos h15]
      unfold frV
      by_cases a1 : i < 6
      · rw [if_pos a1, if_pos a1]
      · by_cases a2 : i = 6
        · rw [if_neg a1, if_pos a2, if_neg a1, if_pos a2]
        · by_cases a3 : i < 13
          · rw [if_neg a1, if_neg a2, if_pos a3, if_neg a1, if_neg a2, if_pos a3]
          · have a4 : i = 13 := by omega
            rw [if_neg a1, if_neg a2, if_neg a3, if_pos a4, if_neg a1, if_neg a2, if_neg a3, if_pos a4]
    · rw [if_neg h15, if_neg h15]

end Go.Proofs.Ytnkkgbecdckigac
