/- Slices of stacks. -/
import Derived.Test.YtnkkgbecdckigaaStkV
import Derived.Test.YtnkkgbecdckigaaOwn
import Derived.Test.YtnkkgbecdckigaaRead
import Derived.OwnWalk
import Derived.Deep.MidRow
import Derived.Great.BuildSlice
namespace Go.Proofs.Ytnkkgbecdckigaa
open Go.RowKit
set_option linter.unusedSimpArgs false
set_option linter.unusedVariables false

def stkR (l : List Int) : List Value := [stkV l 0, stkV l 1, stkV l 2, stkV l 3, stkV l 4, stkV l 5, stkV l 6, stkV l 7, stkV l 8]
theorem stkR_len (l : List Int) : (stkR l).length = 9 := rfl
theorem stkR_eq {l : List Int} (h : l.length ≤ 8) : (stkC l).toList = stkR l := by rw [stkC_lit h]; rfl
theorem stkR_arr {l : List Int} (h : l.length ≤ 8) : (stkR l).toArray = stkC l := by rw [← stkR_eq h]
theorem stkV_one' (l : List Int) (i : Nat) : (stkV l i).oneCell' = true := by unfold stkV; split <;> rfl
def stkRs (ls : List (List Int)) : List Value := ls.flatMap stkR
theorem stkRs_append (a b : List (List Int)) : stkRs (a ++ b) = stkRs a ++ stkRs b := by simp [stkRs, List.flatMap_append]
theorem stkRs_length : ∀ ls : List (List Int), (stkRs ls).length = ls.length * 9
  | [] => rfl
  | l :: ls => by
    have := stkRs_length ls
    simp only [stkRs, List.flatMap_cons, List.length_append, List.length_cons] at this ⊢
    rw [this, stkR_len]; omega
theorem stkRs_one (ls : List (List Int)) : ∀ v ∈ stkRs ls, v.oneCell' = true := by
  intro v hv
  simp only [stkRs, List.mem_flatMap] at hv
  obtain ⟨l, _, hv⟩ := hv
  simp only [stkR, List.mem_cons, List.not_mem_nil, or_false] at hv
  rcases hv with rfl | rfl | rfl | rfl | rfl | rfl | rfl | rfl | rfl <;> exact stkV_one' _ _
theorem stkRs_get : ∀ (ls : List (List Int)) (k j : Nat), k < ls.length → j < 9 → (stkRs ls)[k * 9 + j]? = (stkR (ls.getD k []))[j]?
  | [], k, j, h, _ => by simp at h
  | l :: ls, 0, j, _, hj => by
    simp only [stkRs, List.flatMap_cons, Nat.zero_mul, Nat.zero_add, List.getD_cons_zero]
    rw [List.getElem?_append_left (by rw [stkR_len]; exact hj)]
  | l :: ls, k + 1, j, h, hj => by
    have := stkRs_get ls k j (by simpa using h) hj
    simp only [stkRs, List.flatMap_cons, List.getD_cons_succ] at this ⊢
    rw [List.getElem?_append_right (by rw [stkR_len]; omega), stkR_len, show (k + 1) * 9 + j - 9 = k * 9 + j by omega]
    exact this

def OwnK (B : Nat) (w : World) (v : Value) (ls : List (List Int)) : Prop := w.ownsRow B 42 9 v ls.length (stkRs ls)
theorem OwnK.nil (B : Nat) (w : World) : OwnK B w (.slice none 0 0) [] := World.ownsRow_nil w B _ _
theorem OwnK.below {B : Nat} {w w' : World} {v : Value} {ls : List (List Int)} (h : OwnK B w v ls) (hb : Below w.heap.size w w') : OwnK B w' v ls := by
  refine ⟨h.1, ?_⟩
  rcases h.2 with hn | ⟨g, cap, cur, hv, hB, hg, rest⟩
  · exact .inl hn
  · exact .inr ⟨g, cap, cur, hv, hB, (hb.block g (Array.getElem?_eq_some_iff.1 hg).1).trans hg, rest⟩
theorem OwnK.mono {B B' : Nat} {w : World} {v : Value} {ls : List (List Int)} (h : OwnK B w v ls) (hb : B' ≤ B) : OwnK B' w v ls := by
  refine ⟨h.1, ?_⟩
  rcases h.2 with hn | ⟨g, cap, cur, hv, hB, rest⟩
  · exact .inl hn
  · exact .inr ⟨g, cap, cur, hv, by omega, rest⟩
theorem OwnK.lt {B : Nat} {w : World} {v : Value} {ls : List (List Int)} (h : OwnK B w v ls) : ∀ k, v.ownBlock = some k → B ≤ k ∧ k < w.heap.size := World.ownsRow.lt h
theorem OwnK.grown {B : Nat} {w w' : World} {v : Value} {ls : List (List Int)} {row : Option Nat} (h : OwnK B w v ls) (hg : w.grownBy w' row) (hne : ∀ k, v.ownBlock = some k → row ≠ some k) : OwnK B w' v ls :=
  World.ownsRow.kept h hg (by
    cases e : v.ownBlock with
    | none => exact .inl rfl
    | some k => exact .inr fun e' => hne k e e'.symm)
theorem OwnK.form {B : Nat} {w : World} {v : Value} {ls : List (List Int)} (h : OwnK B w v ls) : ∃ a c, v = .slice a ls.length c ∧ ls.length ≤ c ∧ c ≤ maxLen := by
  rcases h.2 with ⟨rfl, hn⟩ | ⟨g, cap, cur, hv, hB, hg, hnc, hcm, _⟩
  · exact ⟨none, 0, by rw [hn], by omega, by unfold maxLen; omega⟩
  · exact ⟨_, cap, hv, hnc, hcm⟩
theorem OwnK.at {B n c : Nat} {a : Option Addr} {w : World} {ls : List (List Int)} (h : OwnK B w (.slice a n c) ls) (hl : 0 < ls.length) :
    ∃ g, a = some ⟨g, 0, none⟩ ∧ n = ls.length ∧ B ≤ g ∧ g < w.heap.size ∧ (∀ k, k < ls.length → w.rangeAt g (k * 9) (stkR (ls.getD k []))) := by
  rcases h.2 with ⟨_, hn⟩ | ⟨g, cap, cur, hv, hB, hg, hnc, hcm, _⟩
  · omega
  · have hn : n = ls.length := by simp at hv; exact hv.2.1
    have ha : a = some ⟨g, 0, none⟩ := by simp at hv; exact hv.1
    have hc : c = cap := by simp at hv; exact hv.2.2
    subst ha; subst hc; subst hn
    have ca := fun j hj => World.ownsRow.cellAt h j hj
    refine ⟨g, rfl, rfl, hB, (Array.getElem?_eq_some_iff.1 hg).1, fun k hk j v hj => ?_⟩
    have hjC : j < 9 := by have := (List.getElem?_eq_some_iff.1 hj).1; rwa [stkR_len] at this
    have : k * 9 + j < ls.length * 9 := by omega
    rw [ca _ this, stkRs_get ls k j hk hjC]
    exact hj
def MadeK (w : World) (ls : List (List Int)) (e : Ending) (w' : World) : Prop := ∃ v, e = .returned v ∧ OwnK w.heap.size w' v ls ∧ Below w.heap.size w w'

/-- an element of a slice, read -/
theorem boxK_load {ops : Array Oper} {rest : List Oper} {o : Oper} {a : Act} {w : World} {Q : Exit → Act → World → Prop} (hgd : o.guard = none) (x : Operand) (ho : o.op = .load 42 x)
    (g off : Nat) (l : List Int) (hl : l.length ≤ 8) (hx : a.eval x = .pointer (some ⟨g, off, none⟩)) (hg : w.rangeAt g off (stkR l))
    (h : wpList Try.prog ops Q rest (a.put o.dst (.agg (stkC l))) w) : wpList Try.prog ops Q (o :: rest) a w :=
  wpList_load_mid hgd _ x ho g off hx (stkR l) _ hg Try.underlying42 rfl (by rw [stk_info]; rfl) (by rw [stkR_arr hl]; exact h)

theorem stkS_zero : (Try.prog.info? 42).map (fun i => (i.zero, i.size, i.bytes)) = some (some (.agg #[.int .i64 0, .int .i64 0, .int .i64 0, .int .i64 0, .int .i64 0, .int .i64 0, .int .i64 0, .int .i64 0, .int .i64 0]), 9, 72) := by kernel_rfl

/-- put behind others -/
theorem wp_appendK {ops : Array Oper} {rest : List Oper} {o : Oper} {a : Act} {Q : Exit → Act → World → Prop} (w : World)
    (hg : o.guard = none) (s x : Operand) (hop : o.op = Op.call { callee := Callee.builtin Builtin.append, args := #[s, x], argTypes := #[49, 49] })
    (B g m c : Nat) (v : Value) (ls qs : List (List Int)) (hs : a.eval s = v) (hx : a.eval x = .slice (some ⟨g, 0, none⟩) m c) (hm : m = qs.length) (hc : ∀ j, j < qs.length * 9 → w.cell? ⟨g, j, none⟩ = (stkRs qs)[j]?)
    (hown : OwnK B w v ls) (hlen : ls.length + qs.length ≤ 1000000) (hB : B ≤ w.heap.size)
    (hK : ∀ v' w', OwnK B w' v' (ls ++ qs) → w.grownBy w' v.ownBlock → Below B w w' → (∀ k, v'.ownBlock = some k → v.ownBlock = some k ∨ w.heap.size ≤ k) → wpList Try.prog ops Q rest (a.put o.dst v') w') :
    wpList Try.prog ops Q (o :: rest) a w := by
  obtain ⟨i0, hi0, hz0, hz1, hz2⟩ := info_parts stkS_zero
  have hnews : ∀ j u, (stkRs qs)[j]? = some u → w.cell? ((⟨g, 0, none⟩ : Addr).add j) = some u := by
    intro j u hj
    have hlt : j < qs.length * 9 := by have := (List.getElem?_eq_some_iff.1 hj).1; rwa [stkRs_length] at this
    rw [Addr.add_mid, Nat.zero_add, hc j hlt]
    exact hj
  obtain ⟨v', w', hr, h1, h2, _⟩ := run_append_own (P := Try.prog) w B 49 o.type 42 i0 _ 9 72 Try.underlying49 hi0 hz0 hz1 hz2 rfl (by decide) v ls.length (stkRs ls) hown ⟨g, 0, none⟩ m c (stkRs qs) (by rw [stkRs_length, hm]) hnews (stkRs_one qs) (by unfold maxLen; omega) (by omega) hB
  have h3 := append_where w B 49 o.type 42 i0 _ 9 72 Try.underlying49 hi0 hz0 hz1 hz2 rfl (by decide) v ls.length (stkRs ls) hown ⟨g, 0, none⟩ m c (stkRs qs) (by rw [stkRs_length, hm]) hnews (stkRs_one qs) (by unfold maxLen; omega) (by omega) hB v' w' hr
  refine wpList_plain hg fun _ hK' => ?_
  unfold Oper.wp execOp
  simp only [hop, resolve, invoke, builtin, Sem.run_bind, Sem.run_pure, Result.andThen_ok, List.map_toArray, List.map_cons, List.map_nil, hs, hx, hr]
  have hown' : OwnK B w' v' (ls ++ qs) := by
    unfold OwnK
    rw [List.length_append, stkRs_append, ← hm]
    exact h1
  exact hK' _ _ (hK v' w' hown' h2 (below_grown h2 hB fun k hk => (hown.lt k hk).1) h3)

theorem fillK (l : List Int) : Instr.fill (fun i => some (i * 9, 9)) ((Array.range (1 * 9)).map ((Value.agg #[.int .i64 0, .int .i64 0, .int .i64 0, .int .i64 0, .int .i64 0, .int .i64 0, .int .i64 0, .int .i64 0, .int .i64 0]).cells[· % 9]!)) [(0, .agg #[stkV l 0, stkV l 1, stkV l 2, stkV l 3, stkV l 4, stkV l 5, stkV l 6, stkV l 7, stkV l 8])] = some #[stkV l 0, stkV l 1, stkV l 2, stkV l 3, stkV l 4, stkV l 5, stkV l 6, stkV l 7, stkV l 8] := by kernel_rfl

/-- a slice with one element -/
theorem wp_buildK {ops : Array Oper} {rest : List Oper} {o : Oper} {a : Act} {Q : Exit → Act → World → Prop} (w : World)
    (hg : o.guard = none) (x : Operand) (hop : o.op = Op.buildSlice 49 1 #[(0, x)]) (l : List Int) (hl : l.length ≤ 8) (hx : a.eval x = .agg (stkC l))
    (h : wpList Try.prog ops Q rest (a.put o.dst (.slice (some ⟨w.heap.size, 0, none⟩) 1 1)) (w.alloc (.cells (stkC l) 42))) : wpList Try.prog ops Q (o :: rest) a w := by
  obtain ⟨i0, hi0, hz0, hz1, hz2⟩ := info_parts stkS_zero
  refine wpList_buildSlice hg 49 42 1 #[(0, x)] hop (stkC l) i0 _ Try.underlying49 hi0 hz0 (by rw [hz1]; omega) (by rw [hz1]; omega) ?_ h
  rw [hz1]
  simp only [List.map_toArray, List.map_cons, List.map_nil, hx]
  rw [stkC_lit hl]
  exact fillK l
theorem builtK (w : World) (l : List Int) (hl : l.length ≤ 8) (j : Nat) (hj : j < 9) : (w.alloc (.cells (stkC l) 42)).cell? ⟨w.heap.size, j, none⟩ = (stkRs [l])[j]? := by
  rw [cell_of_row _ _ j _ _ _ (heap_alloc_new w _), stkC_lit hl]
  simp [stkRs, stkR]
/-- what a slice with one element owns -/
theorem OwnK.lit1 (B : Nat) (w : World) (l : List Int) (hl : l.length ≤ 8) (hB : B ≤ w.heap.size) : OwnK B (w.alloc (.cells (stkC l) 42)) (.slice (some ⟨w.heap.size, 0, none⟩) 1 1) [l] := by
  have h : (w.alloc (.cells (stkC l) 42)).ownsRow B 42 9 (.slice (some ⟨w.heap.size, 0, none⟩) 1 1) 1 (stkC l).toList := World.ownsRow_lit w (stkC l) 1 hB (by unfold maxLen; omega) (by rw [stkC_size hl])
  unfold OwnK
  have e : stkRs [l] = (stkC l).toList := by rw [stkR_eq hl]; simp [stkRs]
  rw [e]
  exact h

/-- 'make([]T, 0, n)' -/
theorem wp_makeK {ops : Array Oper} {rest : List Oper} {o : Oper} {a : Act} {Q : Exit → Act → World → Prop} (w : World)
    (hg : o.guard = none) (l c : Operand) (hop : o.op = Op.makeSlice 49 l c) (n : Nat) (C : Int) (hl : a.eval l = .int .i64 0) (hc : a.eval c = .int .i64 C) (hC : C = n) (hn : n ≤ 1000000)
    (hK : ∀ w', OwnK w.heap.size w' (.slice (some ⟨w.heap.size, 0, none⟩) 0 n) [] → Below w.heap.size w w' → wpList Try.prog ops Q rest (a.put o.dst (.slice (some ⟨w.heap.size, 0, none⟩) 0 n)) w') :
    wpList Try.prog ops Q (o :: rest) a w := by
  obtain ⟨i0, hi0, hz0, hz1, hz2⟩ := info_parts stkS_zero
  refine wpList_make_own w hg l c 49 hop w.heap.size 42 i0 _ 9 Try.underlying49 hi0 hz0 hz1 .i64 .i64 C n hl hc hC (by rw [hz2]; omega) (by unfold maxLen; omega) (Nat.le_refl _) ?_
  intro w1 hown hgrow
  exact hK w1 hown (below_grown hgrow (Nat.le_refl _) (by simp))

end Go.Proofs.Ytnkkgbecdckigaa
