/- Slices of Meanders whose lists lie apart: the laws' helpers on them. -/
import Derived.Test.YtogjclmmjdhfeabMeAll
import Derived.Test.YtogjclmmjdhfeabListsLaw
import Derived.Deep.RegionHeld3
namespace Go.Proofs.Ytogjclmmjdhfeab
open Go.RowKit
set_option linter.unusedSimpArgs false
set_option linter.unusedVariables false

def flatP (ps : List (List Int × List Int)) : List (List Int) := ps.flatMap (fun p => [p.1, p.2])
theorem flatP_len : ∀ ps : List (List Int × List Int), (flatP ps).length = ps.length * 2
  | [] => rfl
  | e :: r => by
    have := flatP_len r
    unfold flatP at this ⊢
    simp only [List.flatMap_cons, List.length_append, List.length_cons, List.length_nil]; omega
theorem flatP_snoc (ps : List (List Int × List Int)) (p : List Int × List Int) : flatP (ps ++ [p]) = flatP ps ++ [p.1, p.2] := by simp [flatP]
theorem flatP_at : ∀ (ps : List (List Int × List Int)) (k : Nat), k < ps.length → (flatP ps).getD (k * 2) [] = (ps.getD k ([], [])).1 ∧ (flatP ps).getD (k * 2 + 1) [] = (ps.getD k ([], [])).2
  | [], k, h => by simp at h
  | e :: r, 0, _ => ⟨rfl, rfl⟩
  | e :: r, k + 1, h => by
    have := flatP_at r k (by simpa using h)
    have h1 : flatP (e :: r) = [e.1, e.2] ++ flatP r := rfl
    have e1 : (k + 1) * 2 = k * 2 + 1 + 1 := by omega
    rw [h1, e1]
    exact this
theorem cellsML_at : ∀ (es : List (Value × Value)) (k : Nat), k < es.length → rowV (cellsML es) (k * 2) = (es.getD k noV).1 ∧ rowV (cellsML es) (k * 2 + 1) = (es.getD k noV).2
  | [], k, h => by simp at h
  | e :: r, 0, _ => ⟨rfl, rfl⟩
  | e :: r, k + 1, h => by
    have := cellsML_at r k (by simpa using h)
    have h1 : cellsML (e :: r) = [e.1, e.2] ++ cellsML r := rfl
    have e1 : (k + 1) * 2 = k * 2 + 1 + 1 := by omega
    rw [h1, e1]
    exact this

/-- a slice of Meanders that the call owns, its lists row by row -/
structure RdML (lo : Nat) (w : World) (v : Value) (n : Nat) (vs : List Value) (ls : List (List Int)) : Prop where
  len : vs.length = ls.length
  two : ls.length = n * 2
  row : w.ownsRow lo 26 2 v n vs
  own : ∀ i, i < ls.length → Own lo w (rowV vs i) (ls.getD i [])
theorem ownsRowM_below {B n : Nat} {w w' : World} {v : Value} {xs : List Value} (h : w.ownsRow B 26 2 v n xs) (hb : Below w.heap.size w w') : w'.ownsRow B 26 2 v n xs := by
  refine ⟨h.1, ?_⟩
  rcases h.2 with hn | ⟨g, cap, cur, hv, hB, hg, rest⟩
  · exact .inl hn
  · exact .inr ⟨g, cap, cur, hv, hB, (hb.block g (Array.getElem?_eq_some_iff.1 hg).1).trans hg, rest⟩
theorem RdML.below {lo n : Nat} {w w' : World} {v : Value} {vs : List Value} {ls : List (List Int)} (h : RdML lo w v n vs ls) (hb : Below w.heap.size w w') : RdML lo w' v n vs ls :=
  ⟨h.len, h.two, ownsRowM_below h.row hb, fun i hi => (h.own i hi).below hb⟩
theorem OwnML.rdML {lo : Nat} {w : World} {v : Value} {es : List (Value × Value)} {ps : List (List Int × List Int)} (h : OwnML lo w v es ps) : RdML lo w v ps.length (cellsML es) (flatP ps) := by
  refine ⟨by rw [cellsML_len, flatP_len, h.2.1], flatP_len ps, h.1, fun i hi => ?_⟩
  rw [flatP_len] at hi
  have hk : i / 2 < ps.length := by omega
  have a1 := cellsML_at es (i / 2) (by rw [h.2.1]; exact hk)
  have a2 := flatP_at ps (i / 2) hk
  have hi2 : i = i / 2 * 2 ∨ i = i / 2 * 2 + 1 := by omega
  rcases hi2 with e | e
  · rw [e, a1.1, a2.1]; exact (h.2.2 _ hk).1
  · rw [e, a1.2, a2.2]; exact (h.2.2 _ hk).2.1
theorem RdML.form {lo n : Nat} {w : World} {v : Value} {vs : List Value} {ls : List (List Int)} (h : RdML lo w v n vs ls) : ∃ a c, v = .slice a n c ∧ n ≤ c ∧ c ≤ maxLen := by
  rcases h.row.2 with ⟨rfl, rfl⟩ | ⟨g, cap, cur, hv, hB, hg, hnc, hcm, _⟩
  · exact ⟨none, 0, rfl, by omega, by unfold maxLen; omega⟩
  · exact ⟨_, cap, hv, hnc, hcm⟩
theorem RdML.at {lo n m c : Nat} {a : Option Addr} {w : World} {vs : List Value} {ls : List (List Int)} (h : RdML lo w (.slice a m c) n vs ls) (hl : 0 < n) :
    ∃ g, a = some ⟨g, 0, none⟩ ∧ (∀ i, i < n * 2 → w.cell? ⟨g, i, none⟩ = some (rowV vs i)) ∧ ∀ i, w.frozen? ⟨g, i, none⟩ = false := by
  rcases h.row.2 with ⟨_, rfl⟩ | ⟨g, cap, cur, hv, hB, hg, hnc, hcm, _⟩
  · omega
  · simp at hv
    obtain ⟨rfl, rfl, rfl⟩ := hv
    refine ⟨g, rfl, fun i hi => ?_, fun i => World.ownsRow.frozenAt h.row i⟩
    rw [World.ownsRow.cellAt h.row i (by omega)]
    simp [rowV, List.getD, List.getElem?_eq_getElem (show i < vs.length by rw [h.len, h.two]; exact hi)]

/-- the same, each block in lo .. hi - 1 and no two of the lists in one block -/
structure OwnMF (lo hi : Nat) (w : World) (v : Value) (n : Nat) (vs : List Value) (ls : List (List Int)) : Prop where
  rd : RdML lo w v n vs ls
  ends : hi ≤ w.heap.size
  inn : In v lo hi
  inr : ∀ i, i < ls.length → In (rowV vs i) lo hi
  apart : ∀ i j, i < ls.length → j < ls.length → i ≠ j → ∀ k, (rowV vs i).ownBlock = some k → (rowV vs j).ownBlock ≠ some k
theorem OwnMF.below {lo hi n : Nat} {w w' : World} {v : Value} {vs : List Value} {ls : List (List Int)} (h : OwnMF lo hi w v n vs ls) (hb : Below w.heap.size w w') : OwnMF lo hi w' v n vs ls :=
  ⟨h.rd.below hb, Nat.le_trans h.ends hb.size, h.inn, h.inr, h.apart⟩
theorem OwnMF.nil (lo : Nat) (w : World) : OwnMF lo w.heap.size w (.slice none 0 0) 0 [] [] :=
  ⟨⟨rfl, rfl, World.ownsRow_nil w lo _ _, fun i hi => by simp at hi⟩, Nat.le_refl _, fun k hk => by simp [Value.ownBlock] at hk, fun i hi => by simp at hi, fun i j hi => by simp at hi⟩
theorem OwnMF.within {b e lo hi n : Nat} {w w' : World} {v : Value} {vs : List Value} {ls : List (List Int)} (h : OwnMF b e w v n vs ls) (hw : Within lo hi w w') (ha : e ≤ lo ∨ hi ≤ b) : OwnMF b e w' v n vs ls := by
  refine ⟨⟨h.rd.len, h.rd.two, ⟨h.rd.row.1, ?_⟩, fun i hi => (h.rd.own i hi).within hw (h.inr i hi) ha⟩, Nat.le_trans h.ends hw.size, h.inn, h.inr, h.apart⟩
  rcases h.rd.row.2 with hn | ⟨g, cap, cur, rfl, hB, hg, rest⟩
  · exact .inl hn
  · refine .inr ⟨g, cap, cur, rfl, hB, (hw.block g (Array.getElem?_eq_some_iff.1 hg).1 ?_).trans hg, rest⟩
    have := h.inn g rfl; omega
theorem RdML.within {b lo hi n : Nat} {w w' : World} {v : Value} {vs : List Value} {ls : List (List Int)} (h : RdML b w v n vs ls) (hw : Within lo hi w w') (he : ∀ k, v.ownBlock = some k → k < lo) (hr : ∀ i, i < ls.length → ∀ k, (rowV vs i).ownBlock = some k → k < lo) : RdML b w' v n vs ls := by
  refine ⟨h.len, h.two, ⟨h.row.1, ?_⟩, fun i hi => (h.own i hi).within hw (show In (rowV vs i) b lo from fun k hk => ⟨((h.own i hi).lt k hk).1, hr i hi k hk⟩) (.inl (Nat.le_refl _))⟩
  rcases h.row.2 with hn | ⟨g, cap, cur, rfl, hB, hg, rest⟩
  · exact .inl hn
  · refine .inr ⟨g, cap, cur, rfl, hB, (hw.block g (Array.getElem?_eq_some_iff.1 hg).1 ?_).trans hg, rest⟩
    have := he g rfl; omega
theorem RdML.below_lt {b n : Nat} {w : World} {v : Value} {vs : List Value} {ls : List (List Int)} (h : RdML b w v n vs ls) : (∀ k, v.ownBlock = some k → k < w.heap.size) ∧ ∀ i, i < ls.length → ∀ k, (rowV vs i).ownBlock = some k → k < w.heap.size :=
  ⟨fun k hk => (h.row.lt k hk).2, fun i hi k hk => ((h.own i hi).lt k hk).2⟩
/-- a row marked -/
theorem OwnMF.marked {lo hi n : Nat} {w w' : World} {v : Value} {vs : List Value} {ls : List (List Int)} {l : List Int} {i : Nat} (h : OwnMF lo hi w v n vs ls) (hi' : i < ls.length) (hg : w.grownBy w' (rowV vs i).ownBlock) (hnew : Own lo w' (rowV vs i) l) :
    OwnMF lo hi w' v n vs (ls.set i l) := by
  refine ⟨⟨by simp [h.rd.len], by rw [List.length_set]; exact h.rd.two, ?_, fun j hj => ?_⟩, Nat.le_trans h.ends hg.size, h.inn, fun j hj => ?_, fun j j' hj hj' => ?_⟩
  · exact World.ownsRow.kept h.rd.row hg (by
      cases e : v.ownBlock with
      | none => exact .inl rfl
      | some k => exact .inr fun e' => own_apartM (h.rd.own i hi') h.rd.row k e'.symm e)
  · rw [List.length_set] at hj
    by_cases e : i = j
    · subst e; rw [getD_setL_eq hi']; exact hnew
    · rw [getD_setL_ne e]
      exact World.ownsRow.kept (h.rd.own j hj) hg (by
        cases e1 : (rowV vs j).ownBlock with
        | none => exact .inl rfl
        | some k => exact .inr fun e' => h.apart j i hj hi' (fun x => e x.symm) k e1 e'.symm)
  · rw [List.length_set] at hj; exact h.inr j hj
  · rw [List.length_set] at hj hj'; exact h.apart j j' hj hj'



theorem held4_start {w : World} {a b c d : Addr} {x y u v : Value} (h1 : w.cell? a = some x) (h2 : w.cell? b = some y) (h3 : w.cell? c = some u) (h4 : w.cell? d = some v) :
    Hid (Below w.heap.size w w.drew) ∧ w.drew.cell? a = some x ∧ w.drew.cell? b = some y ∧ w.drew.cell? c = some u ∧ w.drew.cell? d = some v :=
  ⟨Below.drew (Below.refl _ _), h1, h2, h3, h4⟩
theorem held4_keep {w w1 w2 : World} {a b c d : Addr} {x y u v : Value} (h : Hid (Below w.heap.size w w1) ∧ w1.cell? a = some x ∧ w1.cell? b = some y ∧ w1.cell? c = some u ∧ w1.cell? d = some v) (hb : Below w1.heap.size w1 w2) :
    Hid (Below w.heap.size w w2) ∧ w2.cell? a = some x ∧ w2.cell? b = some y ∧ w2.cell? c = some u ∧ w2.cell? d = some v := by
  have k : ∀ (a : Addr) v, w1.cell? a = some v → w2.cell? a = some v := fun a v hv => (hb.cell (World.block_lt_of_cell? w1 _ hv)).trans hv
  exact ⟨h.1.out.trans (hb.mono h.1.out.size), k _ _ h.2.1, k _ _ h.2.2.1, k _ _ h.2.2.2.1, k _ _ h.2.2.2.2⟩
theorem held4_out {w w1 : World} {a b c d : Addr} {x y u v : Value} (h : Hid (Below w.heap.size w w1) ∧ w1.cell? a = some x ∧ w1.cell? b = some y ∧ w1.cell? c = some u ∧ w1.cell? d = some v) : Below w.heap.size w w1 := h.1


end Go.Proofs.Ytogjclmmjdhfeab
