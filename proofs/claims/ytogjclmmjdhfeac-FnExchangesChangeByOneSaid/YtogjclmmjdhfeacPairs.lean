/- Slices of pairs: pairsUnder. -/
import Derived.Test.YtogjclmmjdhfeacRank
import Derived.Test.YtogjclmmjdhfeacComps
import Derived.Deep.RegionHeld3
import Derived.Deep.MidRow
namespace Go.Proofs.Ytogjclmmjdhfeac
open Go.RowKit
set_option linter.unusedSimpArgs false
set_option linter.unusedVariables false

def pairsC (ps : List (List Int × List Int)) : List Value := ps.flatMap (fun p => (pairC p.1 p.2).toList)
theorem pairsC_nil : pairsC [] = [] := rfl
theorem pairsC_cons (p : List Int × List Int) (ps : List (List Int × List Int)) : pairsC (p :: ps) = (pairC p.1 p.2).toList ++ pairsC ps := rfl
theorem pairsC_append (a b : List (List Int × List Int)) : pairsC (a ++ b) = pairsC a ++ pairsC b := by simp [pairsC, List.flatMap_append]
theorem pairC_len (t b : List Int) : (pairC t b).toList.length = 26 := rfl
theorem pairsC_length : ∀ ps : List (List Int × List Int), (pairsC ps).length = ps.length * 26
  | [] => rfl
  | p :: r => by rw [pairsC_cons, List.length_append, pairC_len, pairsC_length r, List.length_cons]; omega
theorem pairsC_one (ps : List (List Int × List Int)) : ∀ v ∈ pairsC ps, v.oneCell' = true := by
  intro v hv
  simp only [pairsC, List.mem_flatMap] at hv
  obtain ⟨p, _, h⟩ := hv
  exact (Array.all_eq_true_iff_forall_mem.1 (pairC_one p.1 p.2)) v (by simpa using h)
theorem pairsC_get : ∀ (ps : List (List Int × List Int)) (k j : Nat), k < ps.length → j < 26 → (pairsC ps)[k * 26 + j]? = (pairC (ps.getD k ([], [])).1 (ps.getD k ([], [])).2).toList[j]?
  | [], k, j, h, _ => by simp at h
  | p :: r, 0, j, _, hj => by rw [pairsC_cons, Nat.zero_mul, Nat.zero_add, List.getElem?_append_left (by rw [pairC_len]; exact hj)]; rfl
  | p :: r, k + 1, j, h, hj => by
    rw [pairsC_cons, List.getElem?_append_right (by rw [pairC_len]; omega), pairC_len, show (k + 1) * 26 + j - 26 = k * 26 + j by omega, pairsC_get r k j (by simpa using h) hj]
    rfl
theorem pairsC_zero : ∀ n : Nat, pairsC (List.replicate n ([], [])) = List.replicate (n * 26) (.int .i64 0)
  | 0 => rfl
  | n + 1 => by
    rw [List.replicate_succ, pairsC_cons, pairsC_zero n, show (n + 1) * 26 = 26 + n * 26 by omega, ← List.replicate_append_replicate]
    rfl

def OwnP (B : Nat) (w : World) (v : Value) (ps : List (List Int × List Int)) : Prop := w.ownsRow B 58 26 v ps.length (pairsC ps)
theorem OwnP.nil (B : Nat) (w : World) : OwnP B w (.slice none 0 0) [] := World.ownsRow_nil w B _ _
theorem OwnP.below {B : Nat} {w w' : World} {v : Value} {ps : List (List Int × List Int)} (h : OwnP B w v ps) (hb : Below w.heap.size w w') : OwnP B w' v ps := by
  refine ⟨h.1, ?_⟩
  rcases h.2 with hn | ⟨g, cap, cur, hv, hB, hg, rest⟩
  · exact .inl hn
  · exact .inr ⟨g, cap, cur, hv, hB, (hb.block g (Array.getElem?_eq_some_iff.1 hg).1).trans hg, rest⟩
theorem OwnP.mono {B B' : Nat} {w : World} {v : Value} {ps : List (List Int × List Int)} (h : OwnP B w v ps) (hb : B' ≤ B) : OwnP B' w v ps := by
  refine ⟨h.1, ?_⟩
  rcases h.2 with hn | ⟨g, cap, cur, hv, hB, rest⟩
  · exact .inl hn
  · exact .inr ⟨g, cap, cur, hv, by omega, rest⟩
theorem OwnP.lt {B : Nat} {w : World} {v : Value} {ps : List (List Int × List Int)} (h : OwnP B w v ps) : ∀ k, v.ownBlock = some k → B ≤ k ∧ k < w.heap.size := World.ownsRow.lt h
theorem OwnP.form {B : Nat} {w : World} {v : Value} {ps : List (List Int × List Int)} (h : OwnP B w v ps) : ∃ a c, v = .slice a ps.length c ∧ ps.length ≤ c ∧ c ≤ maxLen := by
  rcases h.2 with ⟨rfl, hn⟩ | ⟨g, cap, cur, hv, hB, hg, hnc, hcm, _⟩
  · exact ⟨none, 0, by rw [hn], by omega, by unfold maxLen; omega⟩
  · exact ⟨_, cap, hv, hnc, hcm⟩
theorem OwnP.at {B n c : Nat} {a : Option Addr} {w : World} {ps : List (List Int × List Int)} (h : OwnP B w (.slice a n c) ps) (hl : 0 < ps.length) :
    ∃ g, a = some ⟨g, 0, none⟩ ∧ n = ps.length ∧ B ≤ g ∧ g < w.heap.size ∧ (∀ k, k < ps.length → w.rangeAt g (k * 26) (pairC (ps.getD k ([], [])).1 (ps.getD k ([], [])).2).toList) ∧ ∀ o m, o + m ≤ ps.length * 26 → w.there g o m := by
  rcases h.2 with ⟨_, hn⟩ | ⟨g, cap, cur, hv, hB, hg, hnc, hcm, _⟩
  · omega
  · have hn : n = ps.length := by simp at hv; exact hv.2.1
    have ha : a = some ⟨g, 0, none⟩ := by simp at hv; exact hv.1
    have hc : c = cap := by simp at hv; exact hv.2.2
    subst ha; subst hc; subst hn
    have ca := fun j hj => World.ownsRow.cellAt h j hj
    refine ⟨g, rfl, rfl, hB, (Array.getElem?_eq_some_iff.1 hg).1, fun k hk j v hj => ?_, fun o m hom j hj => ⟨?_, World.ownsRow.frozenAt h _⟩⟩
    · have hj26 : j < 26 := by have := (List.getElem?_eq_some_iff.1 hj).1; rwa [pairC_len] at this
      have : k * 26 + j < ps.length * 26 := by omega
      rw [ca _ this, pairsC_get ps k j hk hj26]
      exact hj
    · rw [ca _ (by omega)]
      simp [pairsC_length]; omega

/-- many cells stored in a row -/
def setL : List Value → Nat → List Value → List Value
  | xs, _, [] => xs
  | xs, o, v :: r => setL (xs.set o v) (o + 1) r
theorem ownsRow_setCells {B g n c size : Nat} {e : TypeId} : ∀ (vals : List Value) (o : Nat) (w : World) (xs : List Value), w.ownsRow B e size (.slice (some ⟨g, 0, none⟩) n c) n xs → (w.setCells g o vals).ownsRow B e size (.slice (some ⟨g, 0, none⟩) n c) n (setL xs o vals)
  | [], _, _, _, h => h
  | v :: r, o, w, xs, h => ownsRow_setCells r (o + 1) _ _ (World.ownsRow.stored h o v).1
theorem setL_mid : ∀ (B' B A C : List Value), B.length = B'.length → setL (A ++ B ++ C) A.length B' = A ++ B' ++ C
  | [], B, A, C, h => by
    obtain rfl : B = [] := List.eq_nil_of_length_eq_zero h
    rfl
  | v :: r, [], A, C, h => by simp at h
  | v :: r, u :: s, A, C, h => by
    have := setL_mid r s (A ++ [v]) C (by simpa using h)
    rw [List.length_append] at this
    simp only [List.length_singleton] at this
    show setL ((A ++ u :: s ++ C).set A.length v) (A.length + 1) r = _
    rw [show (A ++ u :: s ++ C).set A.length v = A ++ [v] ++ s ++ C by simp [List.set_append_right], this]
    simp
theorem getD_split (ps : List (List Int × List Int)) (k : Nat) (hk : k < ps.length) : ps = ps.take k ++ [ps.getD k ([], [])] ++ ps.drop (k + 1) := by
  simp [List.getD, hk]
theorem set_split (ps : List (List Int × List Int)) (k : Nat) (hk : k < ps.length) (p : List Int × List Int) : ps.set k p = ps.take k ++ [p] ++ ps.drop (k + 1) := by
  rw [List.set_eq_take_append_cons_drop, if_pos hk]; simp
theorem pairsC_set (ps : List (List Int × List Int)) (k : Nat) (hk : k < ps.length) (t b : List Int) : setL (pairsC ps) (k * 26) (pairC t b).toList = pairsC (ps.set k (t, b)) := by
  rw [set_split ps k hk, pairsC_append, pairsC_append]
  have e : (pairsC (ps.take k)).length = k * 26 := by rw [pairsC_length, List.length_take]; congr 1; omega
  have h := setL_mid (pairC t b).toList (pairC (ps.getD k ([], [])).1 (ps.getD k ([], [])).2).toList (pairsC (ps.take k)) (pairsC (ps.drop (k + 1))) rfl
  rw [e] at h
  have e2 : pairsC ps = pairsC (ps.take k) ++ (pairC (ps.getD k ([], [])).1 (ps.getD k ([], [])).2).toList ++ pairsC (ps.drop (k + 1)) := by
    conv => lhs; rw [getD_split ps k hk, pairsC_append, pairsC_append]
    simp [pairsC]
  rw [e2, h]
  simp [pairsC]
theorem OwnP.stored {B g n c : Nat} {w : World} {ps : List (List Int × List Int)} (h : OwnP B w (.slice (some ⟨g, 0, none⟩) n c) ps) (k : Nat) (hk : k < ps.length) (t b : List Int) :
    OwnP B (w.setCells g (k * 26) (pairC t b).toList) (.slice (some ⟨g, 0, none⟩) n c) (ps.set k (t, b)) := by
  have e : n = ps.length := by
    obtain ⟨a, c', hv, _⟩ := h.form
    simp at hv; exact hv.2.1
  subst e
  have := ownsRow_setCells (pairC t b).toList (k * 26) w (pairsC ps) h
  unfold OwnP
  rw [List.length_set, ← pairsC_set ps k hk]
  exact this

theorem pair_zero26 : (Try.prog.info? 58).map (fun i => (i.zero, i.size, i.bytes)) = some (some (.agg #[.int .i64 0, .int .i64 0, .int .i64 0, .int .i64 0, .int .i64 0, .int .i64 0, .int .i64 0, .int .i64 0, .int .i64 0, .int .i64 0, .int .i64 0, .int .i64 0, .int .i64 0, .int .i64 0, .int .i64 0, .int .i64 0, .int .i64 0, .int .i64 0, .int .i64 0, .int .i64 0, .int .i64 0, .int .i64 0, .int .i64 0, .int .i64 0, .int .i64 0, .int .i64 0]), 26, 208) := by kernel_rfl
theorem made_pairs (n : Nat) : (madeCells (Value.agg #[.int .i64 0, .int .i64 0, .int .i64 0, .int .i64 0, .int .i64 0, .int .i64 0, .int .i64 0, .int .i64 0, .int .i64 0, .int .i64 0, .int .i64 0, .int .i64 0, .int .i64 0, .int .i64 0, .int .i64 0, .int .i64 0, .int .i64 0, .int .i64 0, .int .i64 0, .int .i64 0, .int .i64 0, .int .i64 0, .int .i64 0, .int .i64 0, .int .i64 0, .int .i64 0]).cells (n * 26)).toList = pairsC (List.replicate n ([], [])) := by
  rw [pairsC_zero]
  show ((Array.range (n * 26)).map _).toList = _
  rw [Array.toList_map, List.eq_replicate_iff]
  refine ⟨by simp, fun v hv => ?_⟩
  simp only [List.mem_map] at hv
  obtain ⟨i, _, rfl⟩ := hv
  have : ∀ j, j < 26 → (Array.replicate 26 (Value.int IntKind.i64 0))[j]! = Value.int IntKind.i64 0 := fun j hj => by simp [hj]
  exact this (i % 26) (Nat.mod_lt _ (by omega))

/-- 'make([]pair, n)' -/
theorem wp_makeP {ops : Array Oper} {rest : List Oper} {o : Oper} {a : Act} {Q : Exit → Act → World → Prop} (w : World)
    (hg : o.guard = none) (l c : Operand) (hop : o.op = Op.makeSlice 71 l c) (n : Nat) (L C : Int) (hl : a.eval l = .int .i64 L) (hc : a.eval c = .int .i64 C) (hL : L = n) (hC : C = n) (hn : n ≤ 1000000)
    (hK : ∀ w', OwnP w.heap.size w' (.slice (some ⟨w.heap.size, 0, none⟩) n n) (List.replicate n ([], [])) → Below w.heap.size w w' → w.heap.size < w'.heap.size → wpList Try.prog ops Q rest (a.put o.dst (.slice (some ⟨w.heap.size, 0, none⟩) n n)) w') :
    wpList Try.prog ops Q (o :: rest) a w := by
  obtain ⟨i0, hi, hz0, hz1, hz2⟩ := info_parts pair_zero26
  refine wpList_make_full w hg l c 71 hop w.heap.size 58 i0 _ 26 Try.underlying71 hi hz0 hz1 .i64 .i64 L C n hl hc hL hC (by rw [hz2]; omega) (by unfold maxLen; omega) (Nat.le_refl _) ?_
  intro w1 hown hgrow
  have hs : w.heap.size < w1.heap.size := (World.ownsRow.lt hown w.heap.size rfl).2
  rw [made_pairs] at hown
  refine hK w1 ?_ (below_grown hgrow (Nat.le_refl _) (by simp)) hs
  unfold OwnP
  rw [List.length_replicate]
  exact hown

def underL (t : List Int) : List (List Int × List Int) := (allL (t.length / 2)).map (fun q => (t, q))
def MadeP (w : World) (ps : List (List Int × List Int)) (e : Ending) (w' : World) : Prop := ∃ v, e = .returned v ∧ OwnP w.heap.size w' v ps ∧ Below w.heap.size w w'
theorem pairC_list (t b : List Int) : (pairC t b).toList = [sysV t 0, sysV t 1, sysV t 2, sysV t 3, sysV t 4, sysV t 5, sysV t 6, sysV t 7, sysV t 8, sysV t 9, sysV t 10, sysV t 11, sysV t 12, sysV b 0, sysV b 1, sysV b 2, sysV b 3, sysV b 4, sysV b 5, sysV b 6, sysV b 7, sysV b 8, sysV b 9, sysV b 10, sysV b 11, sysV b 12] := rfl
/-- a pair stored: kept whole, so that the walk does not open it cell by cell -/
def storeP (v x : Value) : Sem Unit := Instr.storeAt 58 v x
theorem storeP_eq (v x : Value) : Instr.storeAt 58 v x = storeP v x := rfl
theorem run_storeP (w : World) (g o : Nat) (t b : List Int) (ht : w.there g o 26) :
    (storeP (.pointer (some ⟨g, o, none⟩)) (.agg #[sysV t 0, sysV t 1, sysV t 2, sysV t 3, sysV t 4, sysV t 5, sysV t 6, sysV t 7, sysV t 8, sysV t 9, sysV t 10, sysV t 11, sysV t 12, sysV b 0, sysV b 1, sysV b 2, sysV b 3, sysV b 4, sysV b 5, sysV b 6, sysV b 7, sysV b 8, sysV b 9, sysV b 10, sysV b 11, sysV b 12])).run Try.prog w = .ok () (w.setCells g o (pairC t b).toList) :=
  run_storeAt_mid w g o 58 (pairC t b) ht (by rw [pair_info]; rfl) (pairC_one t b)
attribute [local go_sem ↓] storeP_eq
attribute [local go_sem] run_storeP

def fillP (t : List Int) (L : List (List Int)) (k : Nat) : List (List Int × List Int) := (L.take k).map (fun q => (t, q)) ++ List.replicate (L.length - k) ([], [])
theorem fillP_length (t : List Int) (L : List (List Int)) (k : Nat) (hk : k ≤ L.length) : (fillP t L k).length = L.length := by simp [fillP]; omega
theorem fillP_zero (t : List Int) (L : List (List Int)) : fillP t L 0 = List.replicate L.length ([], []) := by simp [fillP]
theorem fillP_full (t : List Int) (L : List (List Int)) : fillP t L L.length = L.map (fun q => (t, q)) := by simp [fillP]
theorem fillP_succ (t : List Int) (L : List (List Int)) (k : Nat) (hk : k < L.length) : (fillP t L k).set k (t, L.getD k []) = fillP t L (k + 1) := by
  unfold fillP
  rw [List.set_append_right _ _ (by simp; omega), List.take_add_one, List.map_append]
  have e : L.length - k = (L.length - (k + 1)) + 1 := by omega
  rw [e, List.replicate_succ]
  simp [List.getD, hk, Nat.min_eq_left (Nat.le_of_lt hk)]

theorem under_out {w0 w1 : World} {b g o : Nat} {l : List Int} (h : (Hid (SysIn w1 b l ∧ Below w0.heap.size w0 w1) ∧ w1.cell? ⟨b, 0, none⟩ = some (sysV l 0) ∧ w1.cell? ⟨b, 1, none⟩ = some (sysV l 1) ∧ w1.cell? ⟨b, 2, none⟩ = some (sysV l 2) ∧ w1.cell? ⟨b, 3, none⟩ = some (sysV l 3) ∧ w1.cell? ⟨b, 4, none⟩ = some (sysV l 4) ∧ w1.cell? ⟨b, 5, none⟩ = some (sysV l 5) ∧ w1.cell? ⟨b, 6, none⟩ = some (sysV l 6) ∧ w1.cell? ⟨b, 7, none⟩ = some (sysV l 7) ∧ w1.cell? ⟨b, 8, none⟩ = some (sysV l 8) ∧ w1.cell? ⟨b, 9, none⟩ = some (sysV l 9) ∧ w1.cell? ⟨b, 10, none⟩ = some (sysV l 10) ∧ w1.cell? ⟨b, 11, none⟩ = some (sysV l 11) ∧ w1.cell? ⟨b, 12, none⟩ = some (sysV l 12)) ∧ w1.there g o 26) : SysIn w1 b l ∧ Below w0.heap.size w0 w1 := h.1.1
theorem under_keep {w0 w1 w2 : World} {b g o : Nat} {l : List Int} (hl : l.length ≤ 12) (h : (Hid (SysIn w1 b l ∧ Below w0.heap.size w0 w1) ∧ w1.cell? ⟨b, 0, none⟩ = some (sysV l 0) ∧ w1.cell? ⟨b, 1, none⟩ = some (sysV l 1) ∧ w1.cell? ⟨b, 2, none⟩ = some (sysV l 2) ∧ w1.cell? ⟨b, 3, none⟩ = some (sysV l 3) ∧ w1.cell? ⟨b, 4, none⟩ = some (sysV l 4) ∧ w1.cell? ⟨b, 5, none⟩ = some (sysV l 5) ∧ w1.cell? ⟨b, 6, none⟩ = some (sysV l 6) ∧ w1.cell? ⟨b, 7, none⟩ = some (sysV l 7) ∧ w1.cell? ⟨b, 8, none⟩ = some (sysV l 8) ∧ w1.cell? ⟨b, 9, none⟩ = some (sysV l 9) ∧ w1.cell? ⟨b, 10, none⟩ = some (sysV l 10) ∧ w1.cell? ⟨b, 11, none⟩ = some (sysV l 11) ∧ w1.cell? ⟨b, 12, none⟩ = some (sysV l 12)) ∧ w1.there g o 26) (hb : Below w1.heap.size w1 w2) :
    (Hid (SysIn w2 b l ∧ Below w0.heap.size w0 w2) ∧ w2.cell? ⟨b, 0, none⟩ = some (sysV l 0) ∧ w2.cell? ⟨b, 1, none⟩ = some (sysV l 1) ∧ w2.cell? ⟨b, 2, none⟩ = some (sysV l 2) ∧ w2.cell? ⟨b, 3, none⟩ = some (sysV l 3) ∧ w2.cell? ⟨b, 4, none⟩ = some (sysV l 4) ∧ w2.cell? ⟨b, 5, none⟩ = some (sysV l 5) ∧ w2.cell? ⟨b, 6, none⟩ = some (sysV l 6) ∧ w2.cell? ⟨b, 7, none⟩ = some (sysV l 7) ∧ w2.cell? ⟨b, 8, none⟩ = some (sysV l 8) ∧ w2.cell? ⟨b, 9, none⟩ = some (sysV l 9) ∧ w2.cell? ⟨b, 10, none⟩ = some (sysV l 10) ∧ w2.cell? ⟨b, 11, none⟩ = some (sysV l 11) ∧ w2.cell? ⟨b, 12, none⟩ = some (sysV l 12)) ∧ w2.there g o 26 :=
  ⟨sys_cells hl (h.1.1.out.1.below hb) (Below.step h.1.1.out.2 hb), fun j hj => by
    obtain ⟨h1, h2⟩ := h.2 j hj
    obtain ⟨u, hu⟩ := Option.isSome_iff_exists.1 h1
    have hlt := World.block_lt_of_cell? w1 _ hu
    have hbk := hb.block g hlt
    exact ⟨by rw [World.cell?_of_block (a := ⟨g, o + j, none⟩) hbk]; exact h1, by rw [World.frozen?_of_block (a := ⟨g, o + j, none⟩) hbk]; exact h2⟩⟩

theorem heap_setCells_other (g b : Nat) (hne : b ≠ g) : ∀ (vs : List Value) (o : Nat) (w : World), (w.setCells g o vs).heap[b]? = w.heap[b]?
  | [], _, _ => rfl
  | v :: r, o, w => (heap_setCells_other g b hne r (o + 1) _).trans (heap_setCell_other w ⟨g, o, none⟩ b v hne)
theorem under_store {w0 w1 : World} {b g o : Nat} {l : List Int} (hl : l.length ≤ 12) (hne : b ≠ g) (hlo : w0.heap.size ≤ g) (vs : List Value) (h : (Hid (SysIn w1 b l ∧ Below w0.heap.size w0 w1) ∧ w1.cell? ⟨b, 0, none⟩ = some (sysV l 0) ∧ w1.cell? ⟨b, 1, none⟩ = some (sysV l 1) ∧ w1.cell? ⟨b, 2, none⟩ = some (sysV l 2) ∧ w1.cell? ⟨b, 3, none⟩ = some (sysV l 3) ∧ w1.cell? ⟨b, 4, none⟩ = some (sysV l 4) ∧ w1.cell? ⟨b, 5, none⟩ = some (sysV l 5) ∧ w1.cell? ⟨b, 6, none⟩ = some (sysV l 6) ∧ w1.cell? ⟨b, 7, none⟩ = some (sysV l 7) ∧ w1.cell? ⟨b, 8, none⟩ = some (sysV l 8) ∧ w1.cell? ⟨b, 9, none⟩ = some (sysV l 9) ∧ w1.cell? ⟨b, 10, none⟩ = some (sysV l 10) ∧ w1.cell? ⟨b, 11, none⟩ = some (sysV l 11) ∧ w1.cell? ⟨b, 12, none⟩ = some (sysV l 12)) ∧ w1.there g o 26) :
    (Hid (SysIn (w1.setCells g o vs) b l ∧ Below w0.heap.size w0 (w1.setCells g o vs)) ∧ (w1.setCells g o vs).cell? ⟨b, 0, none⟩ = some (sysV l 0) ∧ (w1.setCells g o vs).cell? ⟨b, 1, none⟩ = some (sysV l 1) ∧ (w1.setCells g o vs).cell? ⟨b, 2, none⟩ = some (sysV l 2) ∧ (w1.setCells g o vs).cell? ⟨b, 3, none⟩ = some (sysV l 3) ∧ (w1.setCells g o vs).cell? ⟨b, 4, none⟩ = some (sysV l 4) ∧ (w1.setCells g o vs).cell? ⟨b, 5, none⟩ = some (sysV l 5) ∧ (w1.setCells g o vs).cell? ⟨b, 6, none⟩ = some (sysV l 6) ∧ (w1.setCells g o vs).cell? ⟨b, 7, none⟩ = some (sysV l 7) ∧ (w1.setCells g o vs).cell? ⟨b, 8, none⟩ = some (sysV l 8) ∧ (w1.setCells g o vs).cell? ⟨b, 9, none⟩ = some (sysV l 9) ∧ (w1.setCells g o vs).cell? ⟨b, 10, none⟩ = some (sysV l 10) ∧ (w1.setCells g o vs).cell? ⟨b, 11, none⟩ = some (sysV l 11) ∧ (w1.setCells g o vs).cell? ⟨b, 12, none⟩ = some (sysV l 12)) ∧ (w1.setCells g o vs).there g o 26 :=
  ⟨sys_cells hl ((heap_setCells_other g b hne vs o w1).trans h.1.1.out.1) (Below.setCells g hlo vs o w1 h.1.1.out.2), World.there_setCells h.2 _ _ _⟩

set_option maxRecDepth 100000 in
set_option maxHeartbeats 4000000 in
theorem pairsUnder_any (t : List Int) (gt : goodB t = true) (w : World) : Calls Try.prog 51 #[.agg (sysC t)] w (MadeP w (underL t)) := by
  have hl := good_len' gt
  obtain ⟨m, hm6, hm2⟩ : ∃ m, m ≤ 6 ∧ t.length = 2 * m := by
    have h2 := (good_facts gt).1
    exact ⟨t.length / 2, by omega, by omega⟩
  have hul : underL t = (allL m).map (fun q => (t, q)) := by unfold underL; rw [hm2, Nat.mul_div_cancel_left _ (by omega)]
  have hN := allL_length hm6
  have hsh : (allL m).length ≤ 1000 := by rw [hN]; exact (show ∀ m, m < 7 → catN m ≤ 1000 by decide) m (by omega)
  have hct : ∀ w, Calls Try.prog 71 #[.int .i64 (m : Int)] w (fun e w' => e = .returned (.int .i64 ((allL m).length : Int)) ∧ w = w') := fun w => by rw [hN]; exact catalan_N m hm6 w
  have hsr : ∀ k, k < (allL m).length → ∀ w, Calls Try.prog 72 #[.int .i64 (m : Int), .int .i64 (k : Int)] w (fun e w' => e = .returned (.agg #[sysV ((allL m).getD k []) 0, sysV ((allL m).getD k []) 1, sysV ((allL m).getD k []) 2, sysV ((allL m).getD k []) 3, sysV ((allL m).getD k []) 4, sysV ((allL m).getD k []) 5, sysV ((allL m).getD k []) 6, sysV ((allL m).getD k []) 7, sysV ((allL m).getD k []) 8, sysV ((allL m).getD k []) 9, sysV ((allL m).getD k []) 10, sysV ((allL m).getD k []) 11, sysV ((allL m).getD k []) 12]) ∧ Below w.heap.size w w') := by
    intro k hk w
    rw [allL_get hm6 (by omega), ← sysC_lit (by rw [rankedL_length]; omega)]
    exact systemRanked_any m k w hm6 (by omega)
  rw [hul]
  clear hul
  generalize allL m = L at *
  have hfz := fillP_zero t L
  have hff := fillP_full t L
  rw [← hff]
  have HFS := Lib.hid (fun k => fillP_succ t L k)
  have HFL := Lib.hid (fun k => fillP_length t L k)
  have HSR := Lib.hid hsr; have HCT := Lib.hid hct
  have hbx : SysIn (w.alloc (.cells (sysC t) 56)) w.heap.size t := heap_alloc_new w _
  have h12 : (w.alloc (.cells (sysC t) 56)).cell? ⟨w.heap.size, 12, none⟩ = some (.int .i64 (t.length : Int)) := sys_cell hl hbx 12 (by omega)
  obtain ⟨n, hn⟩ : ∃ n, n = t.length := ⟨_, rfl⟩
  rw [← hn] at h12 hm2
  have HE : Hid ((n : Int) / 2 = (m : Int)) := by show (n : Int) / 2 = (m : Int); omega
  have hn12 : n ≤ 12 := by omega
  have HL := Lib.hid hl; have HBX := Lib.hid hbx; have HFZ := Lib.hid hfz
  clear hsr hct hl gt hn hm2 hN hfz hff hbx
  go_enter Try.func51, Try.ntmps51
  go_wp2_with (first
    | (go_at_call 71; (try rw [HE.out]); ((with_reducible refine (HCT.out _).mono ?_); rintro e w1 ⟨rfl, rfl⟩))
    | (with_reducible refine wp_makeP _ rfl (.tmp 10) (.tmp 10) rfl L.length _ _ rfl rfl rfl rfl (by omega) ?_; intro w1 hown hb hs; have HO := Lib.hid hown; have HS1 := Lib.hid (SysIn.below HBX.out hb); have HB1 := Lib.hid (Below.step (Below.alloc1 w (.cells (sysC t) 56)) hb); clear hown hb))
  generalize hG : (w.alloc (.cells (sysC t) 56)).heap.size = G at *
  rw [World.size_alloc] at hG
  subst hG
  go_loopw [14] (fun i wr => ∃ k : Nat, k ≤ L.length ∧ i = .int .i64 (k : Int) ∧ OwnP (w.heap.size + 1) wr (.slice (some ⟨w.heap.size + 1, 0, none⟩) L.length L.length) (fillP t L k) ∧ SysIn wr w.heap.size t ∧ Below w.heap.size w wr) (fun i _ => L.length - (intOf i).toNat)
  case atStart => exact ⟨0, by omega, rfl, by rw [HFZ.out]; exact HO.out, HS1.out, HB1.out⟩
  case round =>
    obtain ⟨k, hk, rfl, hown, hsys, hbel⟩ := hrel
    clear HO HS1 HB1 HBX
    generalize wr = wc at *
    by_cases hlt : k < L.length
    · obtain ⟨g, hg, hx1, hx2, hx3, hx4, hth⟩ := hown.at (by rw [HFL.out k hk]; omega)
      obtain rfl : g = w.heap.size + 1 := by simp at hg; exact hg.symm
      have hth2 := hth (k * 26) 26 (by rw [HFL.out k hk]; omega)
      have hst := fun w2 (hb : Below wc.heap.size wc w2) => (hown.below hb).stored k (by rw [HFL.out k hk]; exact hlt) t (L.getD k [])
      simp only [HFS.out k hlt] at hst
      have hsk := HSR.out k hlt
      generalize L.getD k [] = q at *
      have HST := Lib.hid hst; have HSK := Lib.hid hsk; have HSY := Lib.hid hsys; have HBE := Lib.hid hbel
      have hsz := hbel.size
      clear hown hth hst hsk hsys hbel hg hx1 hx2 hx3 hx4
      go_wp2_with fail
      go_region_held3 (fun w' => (Hid (SysIn w' w.heap.size t ∧ Below w.heap.size w w') ∧ w'.cell? ⟨w.heap.size, 0, none⟩ = some (sysV t 0) ∧ w'.cell? ⟨w.heap.size, 1, none⟩ = some (sysV t 1) ∧ w'.cell? ⟨w.heap.size, 2, none⟩ = some (sysV t 2) ∧ w'.cell? ⟨w.heap.size, 3, none⟩ = some (sysV t 3) ∧ w'.cell? ⟨w.heap.size, 4, none⟩ = some (sysV t 4) ∧ w'.cell? ⟨w.heap.size, 5, none⟩ = some (sysV t 5) ∧ w'.cell? ⟨w.heap.size, 6, none⟩ = some (sysV t 6) ∧ w'.cell? ⟨w.heap.size, 7, none⟩ = some (sysV t 7) ∧ w'.cell? ⟨w.heap.size, 8, none⟩ = some (sysV t 8) ∧ w'.cell? ⟨w.heap.size, 9, none⟩ = some (sysV t 9) ∧ w'.cell? ⟨w.heap.size, 10, none⟩ = some (sysV t 10) ∧ w'.cell? ⟨w.heap.size, 11, none⟩ = some (sysV t 11) ∧ w'.cell? ⟨w.heap.size, 12, none⟩ = some (sysV t 12)) ∧ w'.there (w.heap.size + 1) (k * 26) 26)
        (first | with_reducible assumption | with_reducible exact under_store HL.out (Nat.ne_of_lt (Nat.lt_succ_self _)) (Nat.le_succ _) _ (by assumption) | with_reducible exact under_keep HL.out (by assumption) (by assumption) | exact ⟨sys_cells (w := wc.drew) HL.out (show SysIn wc.drew _ _ from HSY.out) (Below.drew HBE.out), hth2⟩)
        (first
          | (go_at_call 72; (try rw [HE.out]); ((with_reducible refine (HSK.out _).mono ?_); rintro e w2 ⟨rfl, hb2⟩)))
      have hu := under_out (by with_reducible assumption)
      have ho5 := HST.out w2 ((Below.drew (Below.refl wc.heap.size wc)).trans hb2)
      generalize w2.setCells (w.heap.size + 1) (k * 26) (pairC t q).toList = w5 at *
      have HU := Lib.hid hu; have HO5 := Lib.hid ho5
      clear hu ho5
      go_wp2_with fail
      go_roundw
      case rel => exact ⟨k + 1, by omega, by go_num, HO5.out, HU.out.1, HU.out.2⟩
      case measure => simp [intOf]; omega
    · obtain rfl : k = L.length := by omega
      have HO := Lib.hid hown; have HBE := Lib.hid hbel
      clear hown hsys hbel
      go_wp2_with fail
      go_ret
      exact ⟨_, rfl, HO.out.mono (Nat.le_succ _), HBE.out⟩

end Go.Proofs.Ytogjclmmjdhfeac
