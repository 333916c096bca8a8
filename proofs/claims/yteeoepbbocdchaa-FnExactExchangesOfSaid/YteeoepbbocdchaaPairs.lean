/- Slices of pairs: pairsUnder. -/
import Derived.Test.YteeoepbbocdchaaRank
import Derived.Test.YteeoepbbocdchaaComps
import Derived.Deep.RegionHeld3
import Derived.Deep.MidRow
namespace Go.Proofs.Yteeoepbbocdchaa
open Go.RowKit
set_option linter.unusedSimpArgs false
set_option linter.unusedVariables false

def pairsC (ps : List (List Int × List Int)) : List Value := ps.flatMap (fun p => (pairC p.1 p.2).toList)
theorem pairsC_nil : pairsC [] = [] := rfl
theorem pairsC_cons (p : List Int × List Int) (ps : List (List Int × List Int)) : pairsC (p :: ps) = (pairC p.1 p.2).toList ++ pairsC ps := rfl
theorem pairsC_append (a b : List (List Int × List Int)) : pairsC (a ++ b) = pairsC a ++ pairsC b := by simp [pairsC, List.flatMap_append]
theorem pairC_len (t b : List Int) : (pairC t b).toList.length = 26 := rfl
theorem pairsC_length : ∀ ps : List (List Int × List Int), (pairsC ps).length = ps.length * 26
  | [] => rfl
  | p :: r => by rw [pairsC_cons, List.length_append, pairC_len, pairsC_length r, List.length_cons]; omega
theorem pairsC_one (ps : List (List Int × List Int)) : ∀ v ∈ pairsC ps, v.oneCell' = true := by
  intro v hv
  simp only [pairsC, List.mem_flatMap] at hv
  obtain ⟨p, _, h⟩ := hv
  exact (Array.all_eq_true_iff_forall_mem.1 (pairC_one p.1 p.2)) v (by simpa using h)
theorem pairsC_get : ∀ (ps : List (List Int × List Int)) (k j : Nat), k < ps.length → j < 26 → (pairsC ps)[k * 26 + j]? = (pairC (ps.getD k ([], [])).1 (ps.getD k ([], [])).2).toList[j]?
  | [], k, j, h, _ => by simp at h
  | p :: r, 0, j, _, hj => by rw [pairsC_cons, Nat.zero_mul, Nat.zero_add, List.getElem?_append_left (by rw [pairC_len]; exact hj)]; rfl
  | p :: r, k + 1, j, h, hj => by
    rw [pairsC_cons, List.getElem?_append_right (by rw [pairC_len]; omega), pairC_len, show (k + 1) * 26 + j - 26 = k * 26 + j by omega, pairsC_get r k j (by simpa using h) hj]
    rfl
theorem pairsC_zero : ∀ n : Nat, pairsC (List.replicate n ([], [])) = List.replicate (n * 26) (.int .i64 0)
  | 0 => rfl
  | n + 1 => by
    rw [List.replicate_succ, pairsC_cons, pairsC_zero n, show (n + 1) * 26 = 26 + n * 26 by omega, ← List.replicate_append_replicate]
    rfl

def OwnP (B : Nat) (w : World) (v : Value) (ps : List (List Int × List Int)) : Prop := w.ownsRow B 149 26 v ps.length (pairsC ps)
theorem OwnP.nil (B : Nat) (w : World) : OwnP B w (.slice none 0 0) [] := World.ownsRow_nil w B _ _
theorem OwnP.below {B : Nat} {w w' : World} {v : Value} {ps : List (List Int × List Int)} (h : OwnP B w v ps) (hb : Below w.heap.size w w') : OwnP B w' v ps := by
  refine ⟨h.1, ?_⟩
  rcases h.2 with hn | ⟨g, cap, cur, hv, hB, hg, rest⟩
  · exact .inl hn
  · exact .inr ⟨g, cap, cur, hv, hB, (hb.block g (Array.getElem?_eq_some_iff.1 hg).1).trans hg, rest⟩
theorem OwnP.mono {B B' : Nat} {w : World} {v : Value} {ps : List (List Int × List Int)} (h : OwnP B w v ps) (hb : B' ≤ B) : OwnP B' w v ps := by
  refine ⟨h.1, ?_⟩
  rcases h.2 with hn | ⟨g, cap, cur, hv, hB, rest⟩
  · exact .inl hn
  · exact .inr ⟨g, cap, cur, hv, by omega, rest⟩
theorem OwnP.lt {B : Nat} {w : World} {v : Value} {ps : List (List Int × List Int)} (h : OwnP B w v ps) : ∀ k, v.ownBlock = some k → B ≤ k ∧ k < w.heap.size := World.ownsRow.lt h
theorem OwnP.form {B : Nat} {w : World} {v : Value} {ps : List (List Int × List Int)} (h : OwnP B w v ps) : ∃ a c, v = .slice a ps.length c ∧ ps.length ≤ c ∧ c ≤ maxLen := by
  rcases h.2 with ⟨rfl, hn⟩ | ⟨g, cap, cur, hv, hB, hg, hnc, hcm, _⟩
  · exact ⟨none, 0, by rw [hn], by omega, by unfold maxLen; omega⟩
  · exact ⟨_, cap, hv, hnc, hcm⟩
theorem OwnP.at {B n c : Nat} {a : Option Addr} {w : World} {ps : List (List Int × List Int)} (h : OwnP B w (.slice a n c) ps) (hl : 0 < ps.length) :
    ∃ g, a = some ⟨g, 0, none⟩ ∧ n = ps.length ∧ B ≤ g ∧ g < w.heap.size ∧ (∀ k, k < ps.length → w.rangeAt g (k * 26) (pairC (ps.getD k ([], [])).1 (ps.getD k ([], [])).2).toList) ∧ ∀ o m, o + m ≤ ps.length * 26 → w.there g o m := by
  rcases h.2 with ⟨_, hn⟩ | ⟨g, cap, cur, hv, hB, hg, hnc, hcm, _⟩
  · omega
  · have hn : n = ps.length := by simp at hv; exact hv.2.1
    have ha : a = some ⟨g, 0, none⟩ := by simp at hv; exact hv.1
    have hc : c = cap := by simp at hv; exact hv.2.2
    subst ha; subst hc; subst hn
    have ca := fun j hj => World.ownsRow.cellAt h j hj
    refine ⟨g, rfl, rfl, hB, (Array.getElem?_eq_some_iff.1 hg).1, fun k hk j v hj => ?_, fun o m hom j hj => ⟨?_, World.ownsRow.frozenAt h _⟩⟩
    · have hj26 : j < 26 := by have := (List.getElem?_eq_some_iff.1 hj).1; rwa [pairC_len] at this
      have : k * 26 + j < ps.length * 26 := by omega
      rw [ca _ this, pairsC_get ps k j hk hj26]
      exact hj
    · rw [ca _ (by omega)]
      simp [pairsC_length]; omega

/-- many cells stored in a row -/
def setL : List Value → Nat → List Value → List Value
  | xs, _, [] => xs
  | xs, o, v :: r => setL (xs.set o v) (o + 1) r
theorem ownsRow_setCells {B g n c size : Nat} {e : TypeId} : ∀ (vals : List Value) (o : Nat) (w : World) (xs : List Value), w.ownsRow B e size (.slice (some ⟨g, 0, none⟩) n c) n xs → (w.setCells g o vals).ownsRow B e size (.slice (some ⟨g, 0, none⟩) n c) n (setL xs o vals)
  | [], _, _, _, h => h
  | v :: r, o, w, xs, h => ownsRow_setCells r (o + 1) _ _ (World.ownsRow.stored h o v).1
theorem setL_mid : ∀ (B' B A C : List Value), B.length = B'.length → setL (A ++ B ++ C) A.length B' = A ++ B' ++ C
  | [], B, A, C, h => by
    obtain rfl : B = [] := List.eq_nil_of_length_eq_zero h
    rfl
  | v :: r, [], A, C, h => by simp at h
  | v :: r, u :: s, A, C, h => by
    have := setL_mid r s (A ++ [v]) C (by simpa using h)
    rw [List.length_append] at this
    simp only [List.length_singleton] at this
    show setL ((A ++ u :: s ++ C).set A.length v) (A.length + 1) r = _
    rw [show (A ++ u :: s ++ C).set A.length v = A ++ [v] ++ s ++ C by simp [List.set_append_right], this]
    simp
theorem getD_split (ps : List (List Int × List Int)) (k : Nat) (hk : k < ps.length) : ps = ps.take k ++ [ps.getD k ([], [])] ++ ps.drop (k + 1) := by
  simp [List.getD, hk]
theorem set_split (ps : List (List Int × List Int)) (k : Nat) (hk : k < ps.length) (p : List Int × List Int) : ps.set k p = ps.take k ++ [p] ++ ps.drop (k + 1) := by
  rw [List.set_eq_take_append_cons_drop, if_pos hk]; simp
theorem pairsC_set (ps : List (List Int × List Int)) (k : Nat) (hk : k < ps.length) (t b : List Int) : setL (pairsC ps) (k * 26) (pairC t b).toList = pairsC (ps.set k (t, b)) := by
  rw [set_split ps k hk, pairsC_append, pairsC_append]
  have e : (pairsC (ps.take k)).length = k * 26 := by rw [pairsC_length, List.length_take]; congr 1; omega
  have h := setL_mid (pairC t b).toList (pairC (ps.getD k ([], [])).1 (ps.getD k ([], [])).2).toList (pairsC (ps.take k)) (pairsC (ps.drop (k + 1))) rfl
  rw [e] at h
  have e2 : pairsC ps = pairsC (ps.take k) ++ (pairC (ps.getD k ([], [])).1 (ps.getD k ([], [])).2).toList ++ pairsC (ps.drop (k + 1)) := by
    conv => lhs; rw [getD_split ps k hk, pairsC_append, pairsC_append]
    simp [pairsC]
  rw [e2, h]
  simp [pairsC]
theorem OwnP.stored {B g n c : Nat} {w : World} {ps : List (List Int × List Int)} (h : OwnP B w (.slice (some ⟨g, 0, none⟩) n c) ps) (k : Nat) (hk : k < ps.length) (t b : List Int) :
    OwnP B (w.setCells g (k * 26) (pairC t b).toList) (.slice (some ⟨g, 0, none⟩) n c) (ps.set k (t, b)) := by
  have e : n = ps.length := by
    obtain ⟨a, c', hv, _⟩ := h.form
    simp at hv; exact hv.2.1
  subst e
  have := ownsRow_setCells (pairC t b).toList (k * 26) w (pairsC ps) h
  unfold OwnP
  rw [List.length_set, ← pairsC_set ps k hk]
  exact this

theorem pair_zero26 : (Try.prog.info? 149).map (fun i => (i.zero, i.size, i.bytes)) = some (some (.agg #[.int .i64 0, .int .i64 0, .int .i64 0, .int .i64 0, .int .i64 0, .int .i64 0, .int .i64 0, .int .i64 0, .int .i64 0, .int .i64 0, .int .i64 0, .int .i64 0, .int .i64 0, .int .i64 0, .int .i64 0, .int .i64 0, .int .i64 0, .int .i64 0, .int .i64 0, .int .i64 0, .int .i64 0, .int .i64 0, .int .i64 0, .int .i64 0, .int .i64 0, .int .i64 0]), 26, 208) := by kernel_rfl
theorem made_pairs (n : Nat) : (madeCells (Value.agg #[.int .i64 0, .int .i64 0, .int .i64 0, .int .i64 0, .int .i64 0, .int .i64 0, .int .i64 0, .int .i64 0, .int .i64 0, .int .i64 0, .int .i64 0, .int .i64 0, .int .i64 0, .int .i64 0, .int .i64 0, .int .i64 0, .int .i64 0, .int .i64 0, .int .i64 0, .int .i64 0, .int .i64 0, .int .i64 0, .int .i64 0, .int .i64 0, .int .i64 0, .int .i64 0]).cells (n * 26)).toList = pairsC (List.replicate n ([], [])) := by
  rw [pairsC_zero]
  show ((Array.range (n * 26)).map _).toList = _
  rw [Array.toList_map, List.eq_replicate_iff]
  refine ⟨by simp, fun v hv => ?_⟩
  simp only [List.mem_map] at hv
  obtain ⟨i, _, rfl⟩ := hv
  have : ∀ j, j < 26 → (Array.replicate 26 (Value.int IntKind.i64 0))[j]! = Value.int IntKind.i64 0 := fun j hj => by simp [hj]
  exact this (i % 26) (Nat.mod_lt _ (by omega))

/-- 'make([]pair, n)' -/
theorem wp_makeP {ops : Array Oper} {rest : List Oper} {o : Oper} {a : Act} {Q : Exit → Act → World → Prop} (w : World)
    (hg : o.guard = none) (l c : Operand) (hop : o.op = Op.makeSlice 153 l c) (n : Nat) (L C : Int) (hl : a.eval l = .int .i64 L) (hc : a.eval c = .int .i64 C) (hL : L = n) (hC : C = n) (hn : n ≤ 1000000)
    (hK : ∀ w', OwnP w.heap.size w' (.slice (some ⟨w.heap.size, 0, none⟩) n n) (List.replicate n ([], [])) → Below w.heap.size w w' → w.heap.size < w'.heap.size → wpList Try.prog ops Q rest (a.put o.dst (.slice (some ⟨w.heap.size, 0, none⟩) n n)) w') :
    wpList Try.prog ops Q (o :: rest) a w := by
  obtain ⟨i0, hi, hz0, hz1, hz2⟩ := info_parts pair_zero26
  refine wpList_make_full w hg l c 153 hop w.heap.size 149 i0 _ 26 Try.underlying153 hi hz0 hz1 .i64 .i64 L C n hl hc hL hC (by rw [hz2]; omega) (by unfold maxLen; omega) (Nat.le_refl _) ?_
  intro w1 hown hgrow
  have hs : w.heap.size < w1.heap.size := (World.ownsRow.lt hown w.heap.size rfl).2
  rw [made_pairs] at hown
  refine hK w1 ?_ (below_grown hgrow (Nat.le_refl _) (by simp)) hs
  unfold OwnP
  rw [List.length_replicate]
  exact hown

def underL (t : List Int) : List (List Int × List Int) := (allL (t.length / 2)).map (fun q => (t, q))
def MadeP (w : World) (ps : List (List Int × List Int)) (e : Ending) (w' : World) : Prop := ∃ v, e = .returned v ∧ OwnP w.heap.size w' v ps ∧ Below w.heap.size w w'

end Go.Proofs.Yteeoepbbocdchaa
