/- Slices of systems. -/
import Derived.Test.YteeoepbbocdchaaJoin
import Derived.Test.YteeoepbbocdchaaOwn
import Derived.Test.YteeoepbbocdchaaRead
import Derived.OwnWalk
import Derived.Deep.MidRow
import Derived.Great.BuildSlice
namespace Go.Proofs.Yteeoepbbocdchaa
open Go.RowKit
set_option linter.unusedSimpArgs false
set_option linter.unusedVariables false

def sysR (l : List Int) : List Value := [sysV l 0, sysV l 1, sysV l 2, sysV l 3, sysV l 4, sysV l 5, sysV l 6, sysV l 7, sysV l 8, sysV l 9, sysV l 10, sysV l 11, sysV l 12]
theorem sysR_len (l : List Int) : (sysR l).length = 13 := rfl
theorem sysR_eq {l : List Int} (h : l.length ≤ 12) : (sysC l).toList = sysR l := by rw [sysC_lit h]; rfl
theorem sysR_arr {l : List Int} (h : l.length ≤ 12) : (sysR l).toArray = sysC l := by rw [← sysR_eq h]
theorem sysV_one' (l : List Int) (i : Nat) : (sysV l i).oneCell' = true := by unfold sysV; split <;> rfl
def sysRs (ls : List (List Int)) : List Value := ls.flatMap sysR
theorem sysRs_append (a b : List (List Int)) : sysRs (a ++ b) = sysRs a ++ sysRs b := by simp [sysRs, List.flatMap_append]
theorem sysRs_length : ∀ ls : List (List Int), (sysRs ls).length = ls.length * 13
  | [] => rfl
  | l :: ls => by
    have := sysRs_length ls
    simp only [sysRs, List.flatMap_cons, List.length_append, List.length_cons] at this ⊢
    rw [this, sysR_len]; omega
theorem sysRs_one (ls : List (List Int)) : ∀ v ∈ sysRs ls, v.oneCell' = true := by
  intro v hv
  simp only [sysRs, List.mem_flatMap] at hv
  obtain ⟨l, _, hv⟩ := hv
  simp only [sysR, List.mem_cons, List.not_mem_nil, or_false] at hv
  rcases hv with rfl | rfl | rfl | rfl | rfl | rfl | rfl | rfl | rfl | rfl | rfl | rfl | rfl <;> exact sysV_one' _ _
theorem sysRs_get : ∀ (ls : List (List Int)) (k j : Nat), k < ls.length → j < 13 → (sysRs ls)[k * 13 + j]? = (sysR (ls.getD k []))[j]?
  | [], k, j, h, _ => by simp at h
  | l :: ls, 0, j, _, hj => by
    simp only [sysRs, List.flatMap_cons, Nat.zero_mul, Nat.zero_add, List.getD_cons_zero]
    rw [List.getElem?_append_left (by rw [sysR_len]; exact hj)]
  | l :: ls, k + 1, j, h, hj => by
    have := sysRs_get ls k j (by simpa using h) hj
    simp only [sysRs, List.flatMap_cons, List.getD_cons_succ] at this ⊢
    rw [List.getElem?_append_right (by rw [sysR_len]; omega), sysR_len, show (k + 1) * 13 + j - 13 = k * 13 + j by omega]
    exact this

def OwnS (B : Nat) (w : World) (v : Value) (ls : List (List Int)) : Prop := w.ownsRow B 59 13 v ls.length (sysRs ls)
theorem OwnS.nil (B : Nat) (w : World) : OwnS B w (.slice none 0 0) [] := World.ownsRow_nil w B _ _
theorem OwnS.below {B : Nat} {w w' : World} {v : Value} {ls : List (List Int)} (h : OwnS B w v ls) (hb : Below w.heap.size w w') : OwnS B w' v ls := by
  refine ⟨h.1, ?_⟩
  rcases h.2 with hn | ⟨g, cap, cur, hv, hB, hg, rest⟩
  · exact .inl hn
  · exact .inr ⟨g, cap, cur, hv, hB, (hb.block g (Array.getElem?_eq_some_iff.1 hg).1).trans hg, rest⟩
theorem OwnS.mono {B B' : Nat} {w : World} {v : Value} {ls : List (List Int)} (h : OwnS B w v ls) (hb : B' ≤ B) : OwnS B' w v ls := by
  refine ⟨h.1, ?_⟩
  rcases h.2 with hn | ⟨g, cap, cur, hv, hB, rest⟩
  · exact .inl hn
  · exact .inr ⟨g, cap, cur, hv, by omega, rest⟩
theorem OwnS.lt {B : Nat} {w : World} {v : Value} {ls : List (List Int)} (h : OwnS B w v ls) : ∀ k, v.ownBlock = some k → B ≤ k ∧ k < w.heap.size := World.ownsRow.lt h
theorem OwnS.grown {B : Nat} {w w' : World} {v : Value} {ls : List (List Int)} {row : Option Nat} (h : OwnS B w v ls) (hg : w.grownBy w' row) (hne : ∀ k, v.ownBlock = some k → row ≠ some k) : OwnS B w' v ls :=
  World.ownsRow.kept h hg (by
    cases e : v.ownBlock with
    | none => exact .inl rfl
    | some k => exact .inr fun e' => hne k e e'.symm)
theorem OwnS.form {B : Nat} {w : World} {v : Value} {ls : List (List Int)} (h : OwnS B w v ls) : ∃ a c, v = .slice a ls.length c ∧ ls.length ≤ c ∧ c ≤ maxLen := by
  rcases h.2 with ⟨rfl, hn⟩ | ⟨g, cap, cur, hv, hB, hg, hnc, hcm, _⟩
  · exact ⟨none, 0, by rw [hn], by omega, by unfold maxLen; omega⟩
  · exact ⟨_, cap, hv, hnc, hcm⟩
theorem OwnS.at {B n c : Nat} {a : Option Addr} {w : World} {ls : List (List Int)} (h : OwnS B w (.slice a n c) ls) (hl : 0 < ls.length) :
    ∃ g, a = some ⟨g, 0, none⟩ ∧ n = ls.length ∧ B ≤ g ∧ g < w.heap.size ∧ (∀ k, k < ls.length → w.rangeAt g (k * 13) (sysR (ls.getD k []))) := by
  rcases h.2 with ⟨_, hn⟩ | ⟨g, cap, cur, hv, hB, hg, hnc, hcm, _⟩
  · omega
  · have hn : n = ls.length := by simp at hv; exact hv.2.1
    have ha : a = some ⟨g, 0, none⟩ := by simp at hv; exact hv.1
    have hc : c = cap := by simp at hv; exact hv.2.2
    subst ha; subst hc; subst hn
    have ca := fun j hj => World.ownsRow.cellAt h j hj
    refine ⟨g, rfl, rfl, hB, (Array.getElem?_eq_some_iff.1 hg).1, fun k hk j v hj => ?_⟩
    have hjC : j < 13 := by have := (List.getElem?_eq_some_iff.1 hj).1; rwa [sysR_len] at this
    have : k * 13 + j < ls.length * 13 := by omega
    rw [ca _ this, sysRs_get ls k j hk hjC]
    exact hj
def MadeS (w : World) (ls : List (List Int)) (e : Ending) (w' : World) : Prop := ∃ v, e = .returned v ∧ OwnS w.heap.size w' v ls ∧ Below w.heap.size w w'

/-- an element of a slice, read -/
theorem boxS_load {ops : Array Oper} {rest : List Oper} {o : Oper} {a : Act} {w : World} {Q : Exit → Act → World → Prop} (hgd : o.guard = none) (x : Operand) (ho : o.op = .load 59 x)
    (g off : Nat) (l : List Int) (hl : l.length ≤ 12) (hx : a.eval x = .pointer (some ⟨g, off, none⟩)) (hg : w.rangeAt g off (sysR l))
    (h : wpList Try.prog ops Q rest (a.put o.dst (.agg (sysC l))) w) : wpList Try.prog ops Q (o :: rest) a w :=
  wpList_load_mid hgd _ x ho g off hx (sysR l) _ hg Try.underlying59 rfl (by rw [sys_info]; rfl) (by rw [sysR_arr hl]; exact h)

theorem sysS_zero : (Try.prog.info? 59).map (fun i => (i.zero, i.size, i.bytes)) = some (some (.agg #[.int .i64 0, .int .i64 0, .int .i64 0, .int .i64 0, .int .i64 0, .int .i64 0, .int .i64 0, .int .i64 0, .int .i64 0, .int .i64 0, .int .i64 0, .int .i64 0, .int .i64 0]), 13, 104) := by kernel_rfl

/-- put behind others -/
theorem wp_appendS {ops : Array Oper} {rest : List Oper} {o : Oper} {a : Act} {Q : Exit → Act → World → Prop} (w : World)
    (hg : o.guard = none) (s x : Operand) (hop : o.op = Op.call { callee := Callee.builtin Builtin.append, args := #[s, x], argTypes := #[63, 63] })
    (B g m c : Nat) (v : Value) (ls qs : List (List Int)) (hs : a.eval s = v) (hx : a.eval x = .slice (some ⟨g, 0, none⟩) m c) (hm : m = qs.length) (hc : ∀ j, j < qs.length * 13 → w.cell? ⟨g, j, none⟩ = (sysRs qs)[j]?)
    (hown : OwnS B w v ls) (hlen : ls.length + qs.length ≤ 1000000) (hB : B ≤ w.heap.size)
    (hK : ∀ v' w', OwnS B w' v' (ls ++ qs) → w.grownBy w' v.ownBlock → Below B w w' → (∀ k, v'.ownBlock = some k → v.ownBlock = some k ∨ w.heap.size ≤ k) → wpList Try.prog ops Q rest (a.put o.dst v') w') :
    wpList Try.prog ops Q (o :: rest) a w := by
  obtain ⟨i0, hi0, hz0, hz1, hz2⟩ := info_parts sysS_zero
  have hnews : ∀ j u, (sysRs qs)[j]? = some u → w.cell? ((⟨g, 0, none⟩ : Addr).add j) = some u := by
    intro j u hj
    have hlt : j < qs.length * 13 := by have := (List.getElem?_eq_some_iff.1 hj).1; rwa [sysRs_length] at this
    rw [Addr.add_mid, Nat.zero_add, hc j hlt]
    exact hj
  obtain ⟨v', w', hr, h1, h2, _⟩ := run_append_own (P := Try.prog) w B 63 o.type 59 i0 _ 13 104 Try.underlying63 hi0 hz0 hz1 hz2 rfl (by decide) v ls.length (sysRs ls) hown ⟨g, 0, none⟩ m c (sysRs qs) (by rw [sysRs_length, hm]) hnews (sysRs_one qs) (by unfold maxLen; omega) (by omega) hB
  have h3 := append_where w B 63 o.type 59 i0 _ 13 104 Try.underlying63 hi0 hz0 hz1 hz2 rfl (by decide) v ls.length (sysRs ls) hown ⟨g, 0, none⟩ m c (sysRs qs) (by rw [sysRs_length, hm]) hnews (sysRs_one qs) (by unfold maxLen; omega) (by omega) hB v' w' hr
  refine wpList_plain hg fun _ hK' => ?_
  unfold Oper.wp execOp
  simp only [hop, resolve, invoke, builtin, Sem.run_bind, Sem.run_pure, Result.andThen_ok, List.map_toArray, List.map_cons, List.map_nil, hs, hx, hr]
  have hown' : OwnS B w' v' (ls ++ qs) := by
    unfold OwnS
    rw [List.length_append, sysRs_append, ← hm]
    exact h1
  exact hK' _ _ (hK v' w' hown' h2 (below_grown h2 hB fun k hk => (hown.lt k hk).1) h3)

theorem fillS (l : List Int) : Instr.fill (fun i => some (i * 13, 13)) ((Array.range (1 * 13)).map ((Value.agg #[.int .i64 0, .int .i64 0, .int .i64 0, .int .i64 0, .int .i64 0, .int .i64 0, .int .i64 0, .int .i64 0, .int .i64 0, .int .i64 0, .int .i64 0, .int .i64 0, .int .i64 0]).cells[· % 13]!)) [(0, .agg #[sysV l 0, sysV l 1, sysV l 2, sysV l 3, sysV l 4, sysV l 5, sysV l 6, sysV l 7, sysV l 8, sysV l 9, sysV l 10, sysV l 11, sysV l 12])] = some #[sysV l 0, sysV l 1, sysV l 2, sysV l 3, sysV l 4, sysV l 5, sysV l 6, sysV l 7, sysV l 8, sysV l 9, sysV l 10, sysV l 11, sysV l 12] := by kernel_rfl

/-- a slice with one element -/
theorem wp_buildS {ops : Array Oper} {rest : List Oper} {o : Oper} {a : Act} {Q : Exit → Act → World → Prop} (w : World)
    (hg : o.guard = none) (x : Operand) (hop : o.op = Op.buildSlice 63 1 #[(0, x)]) (l : List Int) (hl : l.length ≤ 12) (hx : a.eval x = .agg (sysC l))
    (h : wpList Try.prog ops Q rest (a.put o.dst (.slice (some ⟨w.heap.size, 0, none⟩) 1 1)) (w.alloc (.cells (sysC l) 59))) : wpList Try.prog ops Q (o :: rest) a w := by
  obtain ⟨i0, hi0, hz0, hz1, hz2⟩ := info_parts sysS_zero
  refine wpList_buildSlice hg 63 59 1 #[(0, x)] hop (sysC l) i0 _ Try.underlying63 hi0 hz0 (by rw [hz1]; omega) (by rw [hz1]; omega) ?_ h
  rw [hz1]
  simp only [List.map_toArray, List.map_cons, List.map_nil, hx]
  rw [sysC_lit hl]
  exact fillS l
theorem builtS (w : World) (l : List Int) (hl : l.length ≤ 12) (j : Nat) (hj : j < 13) : (w.alloc (.cells (sysC l) 59)).cell? ⟨w.heap.size, j, none⟩ = (sysRs [l])[j]? := by
  rw [cell_of_row _ _ j _ _ _ (heap_alloc_new w _), sysC_lit hl]
  simp [sysRs, sysR]
/-- what a slice with one element owns -/
theorem OwnS.lit1 (B : Nat) (w : World) (l : List Int) (hl : l.length ≤ 12) (hB : B ≤ w.heap.size) : OwnS B (w.alloc (.cells (sysC l) 59)) (.slice (some ⟨w.heap.size, 0, none⟩) 1 1) [l] := by
  have h : (w.alloc (.cells (sysC l) 59)).ownsRow B 59 13 (.slice (some ⟨w.heap.size, 0, none⟩) 1 1) 1 (sysC l).toList := World.ownsRow_lit w (sysC l) 1 hB (by unfold maxLen; omega) (by rw [sysC_size hl])
  unfold OwnS
  have e : sysRs [l] = (sysC l).toList := by rw [sysR_eq hl]; simp [sysRs]
  rw [e]
  exact h

/-- 'make([]T, 0, n)' -/
theorem wp_makeS {ops : Array Oper} {rest : List Oper} {o : Oper} {a : Act} {Q : Exit → Act → World → Prop} (w : World)
    (hg : o.guard = none) (l c : Operand) (hop : o.op = Op.makeSlice 63 l c) (n : Nat) (C : Int) (hl : a.eval l = .int .i64 0) (hc : a.eval c = .int .i64 C) (hC : C = n) (hn : n ≤ 1000000)
    (hK : ∀ w', OwnS w.heap.size w' (.slice (some ⟨w.heap.size, 0, none⟩) 0 n) [] → Below w.heap.size w w' → wpList Try.prog ops Q rest (a.put o.dst (.slice (some ⟨w.heap.size, 0, none⟩) 0 n)) w') :
    wpList Try.prog ops Q (o :: rest) a w := by
  obtain ⟨i0, hi0, hz0, hz1, hz2⟩ := info_parts sysS_zero
  refine wpList_make_own w hg l c 63 hop w.heap.size 59 i0 _ 13 Try.underlying63 hi0 hz0 hz1 .i64 .i64 C n hl hc hC (by rw [hz2]; omega) (by unfold maxLen; omega) (Nat.le_refl _) ?_
  intro w1 hown hgrow
  exact hK w1 hown (below_grown hgrow (Nat.le_refl _) (by simp))

end Go.Proofs.Yteeoepbbocdchaa
