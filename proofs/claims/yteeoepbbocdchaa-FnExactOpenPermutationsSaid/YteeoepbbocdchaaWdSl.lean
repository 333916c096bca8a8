/- Slices of words. -/
import Derived.Test.YteeoepbbocdchaaWd
import Derived.Test.YteeoepbbocdchaaOwn
import Derived.Test.YteeoepbbocdchaaRead
import Derived.OwnWalk
import Derived.Deep.MidRow
import Derived.Great.BuildSlice
namespace Go.Proofs.Yteeoepbbocdchaa
open Go.RowKit
set_option linter.unusedSimpArgs false
set_option linter.unusedVariables false


/-- the cells of a word of the program that has read its numbers, one by one -/
def wrdC (l : List Int) : Array Value := wdC l (idxW l)
def wrdV (l : List Int) (i : Nat) : Value := if i < 12 then .int .i64 (l.getD i 0) else if i = 12 then .int .i64 (l.length : Int) else .int .i64 ((idxW l).getD (i - 13) 0)
theorem wrdC_size {l : List Int} (h : l.length ≤ 12) : (wrdC l).size = 25 := wdC_size h (idxW_length l)
theorem wrdC_lit {l : List Int} (h : l.length ≤ 12) : wrdC l = #[wrdV l 0, wrdV l 1, wrdV l 2, wrdV l 3, wrdV l 4, wrdV l 5, wrdV l 6, wrdV l 7, wrdV l 8, wrdV l 9, wrdV l 10, wrdV l 11, wrdV l 12, wrdV l 13, wrdV l 14, wrdV l 15, wrdV l 16, wrdV l 17, wrdV l 18, wrdV l 19, wrdV l 20, wrdV l 21, wrdV l 22, wrdV l 23, wrdV l 24] := by
  refine Array.ext (by rw [wrdC_size h]; rfl) fun i h1 h2 => ?_
  have hi : i < 25 := by rw [wrdC_size h] at h1; exact h1
  have e : (wrdC l)[i]? = some (wrdV l i) := by
    unfold wrdV wrdC
    split
    · next h3 => exact wdC_get h i h3
    · split
      · next h4 => subst h4; exact wdC_last h
      · next h3 h4 =>
        have := wdC_idx h (idxW_length l) (i - 13) (by omega)
        rwa [show 13 + (i - 13) = i by omega] at this
  rw [Array.getElem?_eq_getElem h1] at e
  injection e with e
  rw [e]
  have hc : i = 0 ∨ i = 1 ∨ i = 2 ∨ i = 3 ∨ i = 4 ∨ i = 5 ∨ i = 6 ∨ i = 7 ∨ i = 8 ∨ i = 9 ∨ i = 10 ∨ i = 11 ∨ i = 12 ∨ i = 13 ∨ i = 14 ∨ i = 15 ∨ i = 16 ∨ i = 17 ∨ i = 18 ∨ i = 19 ∨ i = 20 ∨ i = 21 ∨ i = 22 ∨ i = 23 ∨ i = 24 := by omega
  rcases hc with rfl | rfl | rfl | rfl | rfl | rfl | rfl | rfl | rfl | rfl | rfl | rfl | rfl | rfl | rfl | rfl | rfl | rfl | rfl | rfl | rfl | rfl | rfl | rfl | rfl <;> rfl
def wrdR (l : List Int) : List Value := [wrdV l 0, wrdV l 1, wrdV l 2, wrdV l 3, wrdV l 4, wrdV l 5, wrdV l 6, wrdV l 7, wrdV l 8, wrdV l 9, wrdV l 10, wrdV l 11, wrdV l 12, wrdV l 13, wrdV l 14, wrdV l 15, wrdV l 16, wrdV l 17, wrdV l 18, wrdV l 19, wrdV l 20, wrdV l 21, wrdV l 22, wrdV l 23, wrdV l 24]
theorem wrdR_len (l : List Int) : (wrdR l).length = 25 := rfl
theorem wrdR_eq {l : List Int} (h : l.length ≤ 12) : (wrdC l).toList = wrdR l := by rw [wrdC_lit h]; rfl
theorem wrdR_arr {l : List Int} (h : l.length ≤ 12) : (wrdR l).toArray = wrdC l := by rw [← wrdR_eq h]
theorem wrdV_one' (l : List Int) (i : Nat) : (wrdV l i).oneCell' = true := by
  unfold wrdV
  split
  · rfl
  · split <;> rfl
def wrdRs (ls : List (List Int)) : List Value := ls.flatMap wrdR
theorem wrdRs_append (a b : List (List Int)) : wrdRs (a ++ b) = wrdRs a ++ wrdRs b := by simp [wrdRs, List.flatMap_append]
theorem wrdRs_length : ∀ ls : List (List Int), (wrdRs ls).length = ls.length * 25
  | [] => rfl
  | l :: ls => by
    have := wrdRs_length ls
    simp only [wrdRs, List.flatMap_cons, List.length_append, List.length_cons] at this ⊢
    rw [this, wrdR_len]; omega
theorem wrdRs_one (ls : List (List Int)) : ∀ v ∈ wrdRs ls, v.oneCell' = true := by
  intro v hv
  simp only [wrdRs, List.mem_flatMap] at hv
  obtain ⟨l, _, hv⟩ := hv
  simp only [wrdR, List.mem_cons, List.not_mem_nil, or_false] at hv
  rcases hv with rfl | rfl | rfl | rfl | rfl | rfl | rfl | rfl | rfl | rfl | rfl | rfl | rfl | rfl | rfl | rfl | rfl | rfl | rfl | rfl | rfl | rfl | rfl | rfl | rfl <;> exact wrdV_one' _ _
theorem wrdRs_get : ∀ (ls : List (List Int)) (k j : Nat), k < ls.length → j < 25 → (wrdRs ls)[k * 25 + j]? = (wrdR (ls.getD k []))[j]?
  | [], k, j, h, _ => by simp at h
  | l :: ls, 0, j, _, hj => by
    simp only [wrdRs, List.flatMap_cons, Nat.zero_mul, Nat.zero_add, List.getD_cons_zero]
    rw [List.getElem?_append_left (by rw [wrdR_len]; exact hj)]
  | l :: ls, k + 1, j, h, hj => by
    have := wrdRs_get ls k j (by simpa using h) hj
    simp only [wrdRs, List.flatMap_cons, List.getD_cons_succ] at this ⊢
    rw [List.getElem?_append_right (by rw [wrdR_len]; omega), wrdR_len, show (k + 1) * 25 + j - 25 = k * 25 + j by omega]
    exact this

def OwnWo (B : Nat) (w : World) (v : Value) (ls : List (List Int)) : Prop := w.ownsRow B 72 25 v ls.length (wrdRs ls)
theorem OwnWo.nil (B : Nat) (w : World) : OwnWo B w (.slice none 0 0) [] := World.ownsRow_nil w B _ _
theorem OwnWo.below {B : Nat} {w w' : World} {v : Value} {ls : List (List Int)} (h : OwnWo B w v ls) (hb : Below w.heap.size w w') : OwnWo B w' v ls := by
  refine ⟨h.1, ?_⟩
  rcases h.2 with hn | ⟨g, cap, cur, hv, hB, hg, rest⟩
  · exact .inl hn
  · exact .inr ⟨g, cap, cur, hv, hB, (hb.block g (Array.getElem?_eq_some_iff.1 hg).1).trans hg, rest⟩
theorem OwnWo.mono {B B' : Nat} {w : World} {v : Value} {ls : List (List Int)} (h : OwnWo B w v ls) (hb : B' ≤ B) : OwnWo B' w v ls := by
  refine ⟨h.1, ?_⟩
  rcases h.2 with hn | ⟨g, cap, cur, hv, hB, rest⟩
  · exact .inl hn
  · exact .inr ⟨g, cap, cur, hv, by omega, rest⟩
theorem OwnWo.lt {B : Nat} {w : World} {v : Value} {ls : List (List Int)} (h : OwnWo B w v ls) : ∀ k, v.ownBlock = some k → B ≤ k ∧ k < w.heap.size := World.ownsRow.lt h
theorem OwnWo.grown {B : Nat} {w w' : World} {v : Value} {ls : List (List Int)} {row : Option Nat} (h : OwnWo B w v ls) (hg : w.grownBy w' row) (hne : ∀ k, v.ownBlock = some k → row ≠ some k) : OwnWo B w' v ls :=
  World.ownsRow.kept h hg (by
    cases e : v.ownBlock with
    | none => exact .inl rfl
    | some k => exact .inr fun e' => hne k e e'.symm)
theorem OwnWo.form {B : Nat} {w : World} {v : Value} {ls : List (List Int)} (h : OwnWo B w v ls) : ∃ a c, v = .slice a ls.length c ∧ ls.length ≤ c ∧ c ≤ maxLen := by
  rcases h.2 with ⟨rfl, hn⟩ | ⟨g, cap, cur, hv, hB, hg, hnc, hcm, _⟩
  · exact ⟨none, 0, by rw [hn], by omega, by unfold maxLen; omega⟩
  · exact ⟨_, cap, hv, hnc, hcm⟩
theorem OwnWo.at {B n c : Nat} {a : Option Addr} {w : World} {ls : List (List Int)} (h : OwnWo B w (.slice a n c) ls) (hl : 0 < ls.length) :
    ∃ g, a = some ⟨g, 0, none⟩ ∧ n = ls.length ∧ B ≤ g ∧ g < w.heap.size ∧ (∀ k, k < ls.length → w.rangeAt g (k * 25) (wrdR (ls.getD k []))) := by
  rcases h.2 with ⟨_, hn⟩ | ⟨g, cap, cur, hv, hB, hg, hnc, hcm, _⟩
  · omega
  · have hn : n = ls.length := by simp at hv; exact hv.2.1
    have ha : a = some ⟨g, 0, none⟩ := by simp at hv; exact hv.1
    have hc : c = cap := by simp at hv; exact hv.2.2
    subst ha; subst hc; subst hn
    have ca := fun j hj => World.ownsRow.cellAt h j hj
    refine ⟨g, rfl, rfl, hB, (Array.getElem?_eq_some_iff.1 hg).1, fun k hk j v hj => ?_⟩
    have hjC : j < 25 := by have := (List.getElem?_eq_some_iff.1 hj).1; rwa [wrdR_len] at this
    have : k * 25 + j < ls.length * 25 := by omega
    rw [ca _ this, wrdRs_get ls k j hk hjC]
    exact hj
def MadeWo (w : World) (ls : List (List Int)) (e : Ending) (w' : World) : Prop := ∃ v, e = .returned v ∧ OwnWo w.heap.size w' v ls ∧ Below w.heap.size w w'

/-- an element of a slice, read -/
theorem boxWo_load {ops : Array Oper} {rest : List Oper} {o : Oper} {a : Act} {w : World} {Q : Exit → Act → World → Prop} (hgd : o.guard = none) (x : Operand) (ho : o.op = .load 72 x)
    (g off : Nat) (l : List Int) (hl : l.length ≤ 12) (hx : a.eval x = .pointer (some ⟨g, off, none⟩)) (hg : w.rangeAt g off (wrdR l))
    (h : wpList Try.prog ops Q rest (a.put o.dst (.agg (wrdC l))) w) : wpList Try.prog ops Q (o :: rest) a w :=
  wpList_load_mid hgd _ x ho g off hx (wrdR l) _ hg Try.underlying72 rfl (by rw [wd_info]; rfl) (by rw [wrdR_arr hl]; exact h)

theorem wrdS_zero : (Try.prog.info? 72).map (fun i => (i.zero, i.size, i.bytes)) = some (some (.agg #[.int .i64 0, .int .i64 0, .int .i64 0, .int .i64 0, .int .i64 0, .int .i64 0, .int .i64 0, .int .i64 0, .int .i64 0, .int .i64 0, .int .i64 0, .int .i64 0, .int .i64 0, .int .i64 0, .int .i64 0, .int .i64 0, .int .i64 0, .int .i64 0, .int .i64 0, .int .i64 0, .int .i64 0, .int .i64 0, .int .i64 0, .int .i64 0, .int .i64 0]), 25, 200) := by kernel_rfl

/-- put behind others -/
theorem wp_appendWo {ops : Array Oper} {rest : List Oper} {o : Oper} {a : Act} {Q : Exit → Act → World → Prop} (w : World)
    (hg : o.guard = none) (s x : Operand) (hop : o.op = Op.call { callee := Callee.builtin Builtin.append, args := #[s, x], argTypes := #[73, 73] })
    (B g m c : Nat) (v : Value) (ls qs : List (List Int)) (hs : a.eval s = v) (hx : a.eval x = .slice (some ⟨g, 0, none⟩) m c) (hm : m = qs.length) (hc : ∀ j, j < qs.length * 25 → w.cell? ⟨g, j, none⟩ = (wrdRs qs)[j]?)
    (hown : OwnWo B w v ls) (hlen : ls.length + qs.length ≤ 1000000) (hB : B ≤ w.heap.size)
    (hK : ∀ v' w', OwnWo B w' v' (ls ++ qs) → w.grownBy w' v.ownBlock → Below B w w' → (∀ k, v'.ownBlock = some k → v.ownBlock = some k ∨ w.heap.size ≤ k) → wpList Try.prog ops Q rest (a.put o.dst v') w') :
    wpList Try.prog ops Q (o :: rest) a w := by
  obtain ⟨i0, hi0, hz0, hz1, hz2⟩ := info_parts wrdS_zero
  have hnews : ∀ j u, (wrdRs qs)[j]? = some u → w.cell? ((⟨g, 0, none⟩ : Addr).add j) = some u := by
    intro j u hj
    have hlt : j < qs.length * 25 := by have := (List.getElem?_eq_some_iff.1 hj).1; rwa [wrdRs_length] at this
    rw [Addr.add_mid, Nat.zero_add, hc j hlt]
    exact hj
  obtain ⟨v', w', hr, h1, h2, _⟩ := run_append_own (P := Try.prog) w B 73 o.type 72 i0 _ 25 200 Try.underlying73 hi0 hz0 hz1 hz2 rfl (by decide) v ls.length (wrdRs ls) hown ⟨g, 0, none⟩ m c (wrdRs qs) (by rw [wrdRs_length, hm]) hnews (wrdRs_one qs) (by unfold maxLen; omega) (by omega) hB
  have h3 := append_where w B 73 o.type 72 i0 _ 25 200 Try.underlying73 hi0 hz0 hz1 hz2 rfl (by decide) v ls.length (wrdRs ls) hown ⟨g, 0, none⟩ m c (wrdRs qs) (by rw [wrdRs_length, hm]) hnews (wrdRs_one qs) (by unfold maxLen; omega) (by omega) hB v' w' hr
  refine wpList_plain hg fun _ hK' => ?_
  unfold Oper.wp execOp
  simp only [hop, resolve, invoke, builtin, Sem.run_bind, Sem.run_pure, Result.andThen_ok, List.map_toArray, List.map_cons, List.map_nil, hs, hx, hr]
  have hown' : OwnWo B w' v' (ls ++ qs) := by
    unfold OwnWo
    rw [List.length_append, wrdRs_append, ← hm]
    exact h1
  exact hK' _ _ (hK v' w' hown' h2 (below_grown h2 hB fun k hk => (hown.lt k hk).1) h3)

theorem fillWo (l : List Int) : Instr.fill (fun i => some (i * 25, 25)) ((Array.range (1 * 25)).map ((Value.agg #[.int .i64 0, .int .i64 0, .int .i64 0, .int .i64 0, .int .i64 0, .int .i64 0, .int .i64 0, .int .i64 0, .int .i64 0, .int .i64 0, .int .i64 0, .int .i64 0, .int .i64 0, .int .i64 0, .int .i64 0, .int .i64 0, .int .i64 0, .int .i64 0, .int .i64 0, .int .i64 0, .int .i64 0, .int .i64 0, .int .i64 0, .int .i64 0, .int .i64 0]).cells[· % 25]!)) [(0, .agg #[wrdV l 0, wrdV l 1, wrdV l 2, wrdV l 3, wrdV l 4, wrdV l 5, wrdV l 6, wrdV l 7, wrdV l 8, wrdV l 9, wrdV l 10, wrdV l 11, wrdV l 12, wrdV l 13, wrdV l 14, wrdV l 15, wrdV l 16, wrdV l 17, wrdV l 18, wrdV l 19, wrdV l 20, wrdV l 21, wrdV l 22, wrdV l 23, wrdV l 24])] = some #[wrdV l 0, wrdV l 1, wrdV l 2, wrdV l 3, wrdV l 4, wrdV l 5, wrdV l 6, wrdV l 7, wrdV l 8, wrdV l 9, wrdV l 10, wrdV l 11, wrdV l 12, wrdV l 13, wrdV l 14, wrdV l 15, wrdV l 16, wrdV l 17, wrdV l 18, wrdV l 19, wrdV l 20, wrdV l 21, wrdV l 22, wrdV l 23, wrdV l 24] := by kernel_rfl

/-- a slice with one element -/
theorem wp_buildWo {ops : Array Oper} {rest : List Oper} {o : Oper} {a : Act} {Q : Exit → Act → World → Prop} (w : World)
    (hg : o.guard = none) (x : Operand) (hop : o.op = Op.buildSlice 73 1 #[(0, x)]) (l : List Int) (hl : l.length ≤ 12) (hx : a.eval x = .agg (wrdC l))
    (h : wpList Try.prog ops Q rest (a.put o.dst (.slice (some ⟨w.heap.size, 0, none⟩) 1 1)) (w.alloc (.cells (wrdC l) 72))) : wpList Try.prog ops Q (o :: rest) a w := by
  obtain ⟨i0, hi0, hz0, hz1, hz2⟩ := info_parts wrdS_zero
  refine wpList_buildSlice hg 73 72 1 #[(0, x)] hop (wrdC l) i0 _ Try.underlying73 hi0 hz0 (by rw [hz1]; omega) (by rw [hz1]; omega) ?_ h
  rw [hz1]
  simp only [List.map_toArray, List.map_cons, List.map_nil, hx]
  rw [wrdC_lit hl]
  exact fillWo l
theorem builtWo (w : World) (l : List Int) (hl : l.length ≤ 12) (j : Nat) (hj : j < 25) : (w.alloc (.cells (wrdC l) 72)).cell? ⟨w.heap.size, j, none⟩ = (wrdRs [l])[j]? := by
  rw [cell_of_row _ _ j _ _ _ (heap_alloc_new w _), wrdC_lit hl]
  simp [wrdRs, wrdR]
/-- what a slice with one element owns -/
theorem OwnWo.lit1 (B : Nat) (w : World) (l : List Int) (hl : l.length ≤ 12) (hB : B ≤ w.heap.size) : OwnWo B (w.alloc (.cells (wrdC l) 72)) (.slice (some ⟨w.heap.size, 0, none⟩) 1 1) [l] := by
  have h : (w.alloc (.cells (wrdC l) 72)).ownsRow B 72 25 (.slice (some ⟨w.heap.size, 0, none⟩) 1 1) 1 (wrdC l).toList := World.ownsRow_lit w (wrdC l) 1 hB (by unfold maxLen; omega) (by rw [wrdC_size hl])
  unfold OwnWo
  have e : wrdRs [l] = (wrdC l).toList := by rw [wrdR_eq hl]; simp [wrdRs]
  rw [e]
  exact h

/-- 'make([]T, 0, n)' -/
theorem wp_makeWo {ops : Array Oper} {rest : List Oper} {o : Oper} {a : Act} {Q : Exit → Act → World → Prop} (w : World)
    (hg : o.guard = none) (l c : Operand) (hop : o.op = Op.makeSlice 73 l c) (n : Nat) (C : Int) (hl : a.eval l = .int .i64 0) (hc : a.eval c = .int .i64 C) (hC : C = n) (hn : n ≤ 1000000)
    (hK : ∀ w', OwnWo w.heap.size w' (.slice (some ⟨w.heap.size, 0, none⟩) 0 n) [] → Below w.heap.size w w' → wpList Try.prog ops Q rest (a.put o.dst (.slice (some ⟨w.heap.size, 0, none⟩) 0 n)) w') :
    wpList Try.prog ops Q (o :: rest) a w := by
  obtain ⟨i0, hi0, hz0, hz1, hz2⟩ := info_parts wrdS_zero
  refine wpList_make_own w hg l c 73 hop w.heap.size 72 i0 _ 25 Try.underlying73 hi0 hz0 hz1 .i64 .i64 C n hl hc hC (by rw [hz2]; omega) (by unfold maxLen; omega) (Nat.le_refl _) ?_
  intro w1 hown hgrow
  exact hK w1 hown (below_grown hgrow (Nat.le_refl _) (by simp))

end Go.Proofs.Yteeoepbbocdchaa
