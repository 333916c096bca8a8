/- The program's own ends: an array of parts and a size, in a struct (mk/ends.py). -/
import Derived.Test.YtnkkgbecdckigacSys
import Derived.Test.YtnkkgbecdckigacStateMath
import Derived.Deep.QuietTactic
import Derived.BigQuiet
import Derived.Laws.CopyOwn
namespace Go.Proofs.Ytnkkgbecdckigac
open Go.RowKit
set_option linter.unusedSimpArgs false
set_option linter.unusedVariables false

/-- the cells of a system -/
def endL (l : List Int) : List Value := ints (l ++ List.replicate (6 - l.length) 0) ++ [.int .i64 l.length]
def endC (l : List Int) : Array Value := (endL l).toArray

theorem endL_length {l : List Int} (h : l.length ≤ 6) : (endL l).length = 7 := by simp [endL, ints]; omega
theorem endC_size {l : List Int} (h : l.length ≤ 6) : (endC l).size = 7 := by simp [endC, endL_length h]

theorem endC_get {l : List Int} (h : l.length ≤ 6) (i : Nat) (hi : i < 6) : (endC l)[i]? = some (.int .i64 (l.getD i 0)) := by
  simp only [endC, List.getElem?_toArray, endL]
  have hlen : (ints (l ++ List.replicate (6 - l.length) 0)).length = 6 := by simp [ints]; omega
  rw [List.getElem?_append_left (by omega)]
  simp only [ints, List.getElem?_map, List.getElem?_append, List.getD, List.getElem?_replicate]
  by_cases h1 : i < l.length
  · simp [h1]
  · simp [h1, show i - l.length < 6 - l.length by omega]

theorem endC_last {l : List Int} (h : l.length ≤ 6) : (endC l)[6]? = some (.int .i64 (l.length : Int)) := by
  simp only [endC, List.getElem?_toArray, endL]
  have hlen : (ints (l ++ List.replicate (6 - l.length) 0)).length = 6 := by simp [ints]; omega
  rw [List.getElem?_append_right (by omega), hlen]
  rfl

theorem arrayLen6 : Try.prog.arrayLen 62 = 6 := by kernel_rfl
theorem arrayElem6 : Try.prog.elem 62 = 3 := by kernel_rfl
theorem arrayUnder6 : Try.prog.underlying 62 = some (.array 6 3) := by kernel_rfl

/-- 's.mate[:n]' -/
theorem run_parts (b n : Nat) (w : World) (hn : n ≤ 6) : (Instr.sliceAt 62 (.pointer (some ⟨b, 0, none⟩)) none (some (.int .i64 (n : Int))) none).run Try.prog w = .ok (.slice (some ⟨b, 0, none⟩) n 6) w := by
  have h := run_sliceAt_array_h (P := Try.prog) w 62 ⟨b, 0, none⟩ (by rw [arrayLen6, arrayElem6]; exact arrayUnder6) .i64 (n : Int) (by omega) (by rw [arrayLen6]; omega)
  rw [h, arrayLen6, arrayElem6]
  obtain ⟨i0, hi, hz0, hz1, hz2⟩ := info_parts Try.info3
  simp [sizeOf, typeInfo, hi, hz1, slicedAt, Result.andThen, Addr.add]
/-- 's.mate[:]' -/
theorem run_parts_all (b : Nat) (w : World) : (Instr.sliceAt 62 (.pointer (some ⟨b, 0, none⟩)) none none none).run Try.prog w = .ok (.slice (some ⟨b, 0, none⟩) 6 6) w := by
  have h := run_sliceAt_array_all (P := Try.prog) w 62 ⟨b, 0, none⟩ (by rw [arrayLen6, arrayElem6]; exact arrayUnder6)
  rw [h, arrayLen6, arrayElem6]
  obtain ⟨i0, hi, hz0, hz1, hz2⟩ := info_parts Try.info3
  simp [sizeOf, typeInfo, hi, hz1, slicedAt, Result.andThen, Addr.add]

def EndIn (w : World) (b : Nat) (l : List Int) : Prop := w.heap[b]? = some (.cells (endC l) 64 (0, 0))

theorem EndIn.below {w w' : World} {b : Nat} {l : List Int} (h : EndIn w b l) (hb : Below w.heap.size w w') : EndIn w' b l :=
  (hb.block b (Array.getElem?_eq_some_iff.1 h).1).trans h
theorem EndIn.under {w w' : World} {b B : Nat} {l : List Int} (h : EndIn w b l) (hb : Below B w w') (hB : b < B) : EndIn w' b l := (hb.block b hB).trans h

theorem end_info : (Try.prog.info? 64).map (·.size) = some 7 := by kernel_rfl

theorem endC_one (l : List Int) : (endC l).all (·.oneCell') = true := by
  rw [Array.all_eq_true_iff_forall_mem]
  intro x hx
  simp only [endC, endL, ints, List.mem_toArray, List.mem_append, List.mem_map, List.mem_singleton] at hx
  rcases hx with ⟨y, _, rfl⟩ | rfl <;> rfl

/-- a whole system read out of a variable -/
theorem wp_loadEnd {ops : Array Oper} {rest : List Oper} {o : Oper} {a : Act} {w : World} {Q : Exit → Act → World → Prop} (hgd : o.guard = none) (x : Operand) (ho : o.op = .load 64 x)
    (g : Nat) (l : List Int) (hl : l.length ≤ 6) (hx : a.eval x = .pointer (some ⟨g, 0, none⟩)) (hg : EndIn w g l)
    (h : wpList Try.prog ops Q rest (a.put o.dst (.agg (endC l))) w) : wpList Try.prog ops Q (o :: rest) a w :=
  wpList_load_row hgd _ x ho g hx _ (endC l) (0, 0) _ hg Try.underlying64 rfl (by rw [end_info, endC_size hl]) h

/-- the same where the load is guarded -/
theorem wp_loadEndG {ops : Array Oper} {rest : List Oper} {o : Oper} {a : Act} {w : World} {Q : Exit → Act → World → Prop} (x : Operand) (ho : o.op = .load 64 x)
    (g : Nat) (l : List Int) (hl : l.length ≤ 6) (hx : a.eval x = .pointer (some ⟨g, 0, none⟩)) (hg : EndIn w g l) (hw : Region.wanted o (yielded ops a.tmps) = true)
    (h : wpList Try.prog ops Q rest (a.put o.dst (.agg (endC l))) w) : wpList Try.prog ops Q (o :: rest) a w :=
  wpList_wanted hw fun _ hK => wp_load_row _ x ho g hx _ (endC l) (0, 0) _ hg Try.underlying64 rfl (by rw [end_info, endC_size hl]) (hK _ _ h)

/-- a whole system stored into a variable -/
theorem wp_storeEnd {ops : Array Oper} {rest : List Oper} {o : Oper} {a : Act} {w : World} {Q : Exit → Act → World → Prop} (hgd : o.guard = none) (x y : Operand) (ho : o.op = .store 64 x y)
    (g : Nat) (l l0 : List Int) (hl : l.length ≤ 6) (hl0 : l0.length ≤ 6) (hx : a.eval x = .pointer (some ⟨g, 0, none⟩)) (hy : a.eval y = .agg (endC l)) (hg : EndIn w g l0)
    (h : ∀ w', EndIn w' g l → w.grownBy w' (some g) → wpList Try.prog ops Q rest (a.put o.dst undef) w') : wpList Try.prog ops Q (o :: rest) a w := by
  refine wpList_store_row hgd _ x y ho g (endC l) hx hy 64 (endC l0) hg (by rw [end_info, endC_size hl]) (by rw [endC_size hl, endC_size hl0]) (endC_one l) ?_
  refine h _ (setRow_heap w g _ _ _ _ hg) ⟨rfl, rfl, rfl, by simp, fun k _ hk => setRow_other w g k _ (fun e => hk (by simp [e]))⟩

/-- the empty system stored into a variable -/
theorem wp_storeEnd0 {ops : Array Oper} {rest : List Oper} {o : Oper} {a : Act} {w : World} {Q : Exit → Act → World → Prop} (hgd : o.guard = none) (x y : Operand) (ho : o.op = .store 64 x y)
    (g : Nat) (l0 : List Int) (hl0 : l0.length ≤ 6) (hx : a.eval x = .pointer (some ⟨g, 0, none⟩)) (hy : a.eval y = .agg #[.int .i64 0, .int .i64 0, .int .i64 0, .int .i64 0, .int .i64 0, .int .i64 0, .int .i64 0]) (hg : EndIn w g l0)
    (h : ∀ w', EndIn w' g [] → w.grownBy w' (some g) → wpList Try.prog ops Q rest (a.put o.dst undef) w') : wpList Try.prog ops Q (o :: rest) a w :=
  wp_storeEnd hgd x y ho g [] l0 (by simp) hl0 hx hy hg h

theorem EndIn.grown {w w' : World} {b g : Nat} {l : List Int} (h : EndIn w b l) (hg : w.grownBy w' (some g)) (hne : b ≠ g) : EndIn w' b l :=
  (hg.block b (Array.getElem?_eq_some_iff.1 h).1 (by simp; exact hne)).trans h

theorem EndIn.lt {w : World} {b : Nat} {l : List Int} (h : EndIn w b l) : b < w.heap.size := (Array.getElem?_eq_some_iff.1 h).1

theorem EndIn.rd {w : World} {b : Nat} {l : List Int} (h : EndIn w b l) (hl : l.length ≤ 6) : Rd w (.slice (some ⟨b, 0, none⟩) l.length 6) l := by
  refine ⟨_, 6, rfl, hl, by unfold maxLen; omega, by simp, .inr ⟨b, 0, rfl, fun k hk => ?_⟩⟩
  rw [Nat.zero_add, cell_of_row w b k _ _ _ h, endC_get hl k (by omega)]

theorem EndIn.cell {w : World} {b : Nat} {l : List Int} (h : EndIn w b l) (hl : l.length ≤ 6) (k : Nat) (hk : k < 6) : w.cell? ⟨b, k, none⟩ = some (.int .i64 (l.getD k 0)) := by
  rw [cell_of_row w b k _ _ _ h, endC_get hl k hk]
theorem EndIn.size {w : World} {b : Nat} {l : List Int} (h : EndIn w b l) (hl : l.length ≤ 6) : w.cell? ⟨b, 6, none⟩ = some (.int .i64 (l.length : Int)) := by
  rw [cell_of_row w b 6 _ _ _ h, endC_last hl]
theorem EndIn.free {w : World} {b : Nat} {l : List Int} (h : EndIn w b l) (k : Nat) : w.frozen? ⟨b, k, none⟩ = false := frozen_of_row w b k _ _ h


/-- the cells of a stack, one by one -/
def endV (l : List Int) (i : Nat) : Value := if i < 6 then .int .i64 (l.getD i 0) else .int .i64 l.length
theorem endC_lit {l : List Int} (h : l.length ≤ 6) : endC l = #[endV l 0, endV l 1, endV l 2, endV l 3, endV l 4, endV l 5, endV l 6] := by
  refine Array.ext (by rw [endC_size h]; rfl) fun i h1 h2 => ?_
  have hi : i < 7 := by rw [endC_size h] at h1; exact h1
  have e : (endC l)[i]? = some (endV l i) := by
    unfold endV
    split
    · next h3 => exact endC_get h i h3
    · obtain rfl : i = 6 := by omega
      exact endC_last h
  rw [Array.getElem?_eq_getElem h1] at e
  have e2 : i = 0 ∨ i = 1 ∨ i = 2 ∨ i = 3 ∨ i = 4 ∨ i = 5 ∨ i = 6 := by omega
  rcases e2 with rfl | rfl | rfl | rfl | rfl | rfl | rfl <;> simpa using e
theorem end_cell {w : World} {b : Nat} {l : List Int} (hl : l.length ≤ 6) (h : EndIn w b l) (i : Nat) (hi : i < 7) : w.cell? ⟨b, i, none⟩ = some (endV l i) := by
  unfold endV
  split
  · next h3 => exact h.cell hl i h3
  · obtain rfl : i = 6 := by omega
    exact h.size hl


end Go.Proofs.Ytnkkgbecdckigac
