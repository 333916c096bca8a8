/- The numbers of parts as a map's datum. -/
import Derived.Test.YtnkkgbecdckigacStateMath
import Derived.Test.YtnkkgbecdckigacBase
import Derived.Maps.OwnSet
import Derived.Maps.OwnOps
import Derived.Laws.CopyOwn
namespace Go.Proofs.Ytnkkgbecdckigac
open Go.RowKit Go.Maps
set_option linter.unusedSimpArgs false
set_option linter.unusedVariables false

theorem snoc_ind {P : List Int → Prop} (h0 : P []) (h1 : ∀ l x, P l → P (l ++ [x])) (l : List Int) : P l := by
  have h : ∀ l : List Int, P l.reverse := by
    intro l
    induction l with
    | nil => exact h0
    | cons x l ih => rw [List.reverse_cons]; exact h1 _ x ih
  have := h l.reverse
  rwa [List.reverse_reverse] at this
def mapD (acc : List Int) : DataW Unit := (List.range acc.length).foldl (fun D i => D.put (.int .i64 (acc.getD i 0)) (.lit (.int .i64 (i : Int)))) (.map [])
theorem foldl_same {α β : Type} (f g : β → α → β) : ∀ (l : List α) (z : β), (∀ x ∈ l, ∀ y, f y x = g y x) → l.foldl f z = l.foldl g z
  | [], _, _ => rfl
  | x :: l, z, h => by
    rw [List.foldl_cons, List.foldl_cons, h x (by simp)]
    exact foldl_same f g l _ fun y hy => h y (by simp [hy])
theorem mapD_nil : mapD [] = .map [] := rfl
theorem mapD_snoc (acc : List Int) (x : Int) : mapD (acc ++ [x]) = (mapD acc).put (.int .i64 x) (.lit (.int .i64 (acc.length : Int))) := by
  unfold mapD
  rw [List.length_append, List.length_singleton, List.range_succ, List.foldl_append, List.foldl_cons, List.foldl_nil]
  have e : (acc ++ [x]).getD acc.length 0 = x := by simp [List.getD]
  rw [e]
  congr 1
  refine foldl_same _ _ _ _ fun i hi y => ?_
  rw [List.mem_range] at hi
  rw [show (acc ++ [x]).getD i 0 = acc.getD i 0 by simp [List.getD, List.getElem?_append_left hi]]
theorem key_i (x : Int) : WideAt.IsKeyLit (.int .i64 x) := trivial
theorem lit_ne {x y : Int} (h : x ≠ y) : (Lit.int .i64 x) ≠ .int .i64 y := fun e => h (by injection e)
theorem mapD_tidy : ∀ (acc : List Int), Tidy (mapD acc) := by
  intro acc
  induction acc using snoc_ind with
  | h0 => exact tidy_empty
  | h1 acc x ih => rw [mapD_snoc]; exact ih.put (key_i x) _
theorem mapD_has (x : Int) (acc : List Int) : Maps.has (mapD acc) (.int .i64 x) = decide (x ∈ acc) := by
  induction acc using snoc_ind with
  | h0 => rfl
  | h1 acc y ih =>
    rw [mapD_snoc]
    by_cases e : x = y
    · subst e
      rw [has_put_same (mapD_tidy acc).isMap (key_i x)]
      simp
    · rw [has_put_other (lit_ne e), ih]
      simp [e]
theorem mapD_at (x : Int) (acc : List Int) (hn : acc.Nodup) (hx : x ∈ acc) (z : DataW Unit) : (mapD acc).atKey (.int .i64 x) z = .lit (.int .i64 (acc.idxOf x : Int)) := by
  induction acc using snoc_ind with
  | h0 => simp at hx
  | h1 acc y ih =>
    rw [mapD_snoc]
    rw [List.nodup_append] at hn
    by_cases e : x = y
    · subst e
      have hx2 : x ∉ acc := fun h => hn.2.2 x h x (by simp) rfl
      rw [atKey_put_same (mapD_tidy acc).isMap (key_i x), List.idxOf_append, if_neg hx2]
      simp
    · have hx2 : x ∈ acc := by simpa [e] using hx
      rw [atKey_put_other (lit_ne e), ih hn.1 hx2, List.idxOf_append, if_pos hx2]
theorem mapD_size (acc : List Int) (hn : acc.Nodup) : Maps.size (mapD acc) = acc.length := by
  induction acc using snoc_ind with
  | h0 => rfl
  | h1 acc y ih =>
    rw [List.nodup_append] at hn
    have hy : y ∉ acc := fun h => hn.2.2 y h y (by simp) rfl
    rw [mapD_snoc, size_put (mapD_tidy acc), mapD_has, decide_eq_false hy, ih hn.1]
    simp

/-- one number more -/
theorem seenL_take {acc l : List Int} {k : Nat} (hk : k < l.length) : seenL acc (l.take (k + 1)) = if l.getD k 0 ∈ seenL acc (l.take k) then seenL acc (l.take k) else seenL acc (l.take k) ++ [l.getD k 0] := by
  rw [List.take_succ_eq_append_getElem hk, seenL_append, show l.getD k 0 = l[k] by simp [List.getD, hk]]
  generalize seenL acc (l.take k) = S
  rw [seenL]
  split <;> rfl
theorem numL_at : ∀ (l acc : List Int) (k : Nat), k < l.length → (numL acc l).getD k 0 = if l.getD k 0 ∈ seenL acc (l.take k) then ((seenL acc (l.take k)).idxOf (l.getD k 0) : Int) else ((seenL acc (l.take k)).length : Int)
  | [], _, k, h => by simp at h
  | x :: l, acc, 0, _ => by
    unfold numL
    simp only [List.take_zero, seenL, List.getD_cons_zero]
    split <;> rfl
  | x :: l, acc, k + 1, h => by
    unfold numL
    simp only [List.take_succ_cons, List.getD_cons_succ, seenL]
    split
    · rw [List.getD_cons_succ]; exact numL_at l acc k (by simpa using h)
    · rw [List.getD_cons_succ]; exact numL_at l _ k (by simpa using h)
theorem numL_take {acc l : List Int} {k : Nat} (hk : k < l.length) : (numL acc l).take (k + 1) = (numL acc l).take k ++ [(numL acc l).getD k 0] := by
  have h : k < (numL acc l).length := by rw [numL_length]; exact hk
  rw [List.take_succ_eq_append_getElem h]
  simp [List.getD, h]
theorem seenL_len (acc l : List Int) (k : Nat) : (seenL acc (l.take k)).length ≤ acc.length + k := by
  have := seenL_length (l.take k) acc
  rw [List.length_take] at this
  omega
/-- cells put in, one more -/
theorem splice_snoc (C : List Value) (o k : Nat) (cs : List Value) (v : Value) (hcs : cs.length = k) (h : o + k < C.length) : (splice C o cs).set (o + k) v = splice C o (cs ++ [v]) := by
  unfold splice
  have hl : (C.take o).length = o := by rw [List.length_take]; omega
  rw [hcs, List.length_append, hcs, List.length_singleton]
  rw [List.set_append_right _ _ (by omega), hl, show o + k - o = k by omega, List.set_append_right _ _ (by omega), hcs, Nat.sub_self]
  rw [List.drop_eq_getElem_cons h, List.set_cons_zero, List.append_assoc, show o + (k + 1) = o + k + 1 by omega]
  rfl
theorem splice_get (C : List Value) (o : Nat) (cs : List Value) (j : Nat) (h : o + cs.length ≤ j) (h2 : o + cs.length ≤ C.length) : (splice C o cs)[j]? = C[j]? := by
  unfold splice
  have hl : (C.take o).length = o := by rw [List.length_take]; omega
  rw [List.getElem?_append_right (by omega), hl, List.getElem?_append_right (by omega), List.getElem?_drop, show o + cs.length + (j - o - cs.length) = j by omega]
end Go.Proofs.Ytnkkgbecdckigac
