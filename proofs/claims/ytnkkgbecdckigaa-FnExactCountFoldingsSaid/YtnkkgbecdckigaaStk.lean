/- The program's own stacks: an array of stamps and a size, in a struct. -/
import Derived.Test.YtnkkgbecdckigaaSys
import Derived.Test.YtnkkgbecdckigaaStkMath
import Derived.Deep.QuietTactic
import Derived.BigQuiet
import Derived.Laws.CopyOwn
namespace Go.Proofs.Ytnkkgbecdckigaa
open Go.RowKit
set_option linter.unusedSimpArgs false
set_option linter.unusedVariables false

/-- the cells of a system -/
def stkL (l : List Int) : List Value := ints (l ++ List.replicate (8 - l.length) 0) ++ [.int .i64 l.length]
def stkC (l : List Int) : Array Value := (stkL l).toArray

theorem stkL_length {l : List Int} (h : l.length ≤ 8) : (stkL l).length = 9 := by simp [stkL, ints]; omega
theorem stkC_size {l : List Int} (h : l.length ≤ 8) : (stkC l).size = 9 := by simp [stkC, stkL_length h]

theorem stkC_get {l : List Int} (h : l.length ≤ 8) (i : Nat) (hi : i < 8) : (stkC l)[i]? = some (.int .i64 (l.getD i 0)) := by
  simp only [stkC, List.getElem?_toArray, stkL]
  have hlen : (ints (l ++ List.replicate (8 - l.length) 0)).length = 8 := by simp [ints]; omega
  rw [List.getElem?_append_left (by omega)]
  simp only [ints, List.getElem?_map, List.getElem?_append, List.getD, List.getElem?_replicate]
  by_cases h1 : i < l.length
  · simp [h1]
  · simp [h1, show i - l.length < 8 - l.length by omega]

theorem stkC_last {l : List Int} (h : l.length ≤ 8) : (stkC l)[8]? = some (.int .i64 (l.length : Int)) := by
  simp only [stkC, List.getElem?_toArray, stkL]
  have hlen : (ints (l ++ List.replicate (8 - l.length) 0)).length = 8 := by simp [ints]; omega
  rw [List.getElem?_append_right (by omega), hlen]
  rfl

theorem arrayLen8 : Try.prog.arrayLen 40 = 8 := by kernel_rfl
theorem arrayElem8 : Try.prog.elem 40 = 3 := by kernel_rfl
theorem arrayUnder8 : Try.prog.underlying 40 = some (.array 8 3) := by kernel_rfl

/-- 's.mate[:n]' -/
theorem run_stamps (b n : Nat) (w : World) (hn : n ≤ 8) : (Instr.sliceAt 40 (.pointer (some ⟨b, 0, none⟩)) none (some (.int .i64 (n : Int))) none).run Try.prog w = .ok (.slice (some ⟨b, 0, none⟩) n 8) w := by
  have h := run_sliceAt_array_h (P := Try.prog) w 40 ⟨b, 0, none⟩ (by rw [arrayLen8, arrayElem8]; exact arrayUnder8) .i64 (n : Int) (by omega) (by rw [arrayLen8]; omega)
  rw [h, arrayLen8, arrayElem8]
  obtain ⟨i0, hi, hz0, hz1, hz2⟩ := info_parts Try.info3
  simp [sizeOf, typeInfo, hi, hz1, slicedAt, Result.andThen, Addr.add]
/-- 's.mate[:]' -/
theorem run_stamps_all (b : Nat) (w : World) : (Instr.sliceAt 40 (.pointer (some ⟨b, 0, none⟩)) none none none).run Try.prog w = .ok (.slice (some ⟨b, 0, none⟩) 8 8) w := by
  have h := run_sliceAt_array_all (P := Try.prog) w 40 ⟨b, 0, none⟩ (by rw [arrayLen8, arrayElem8]; exact arrayUnder8)
  rw [h, arrayLen8, arrayElem8]
  obtain ⟨i0, hi, hz0, hz1, hz2⟩ := info_parts Try.info3
  simp [sizeOf, typeInfo, hi, hz1, slicedAt, Result.andThen, Addr.add]

def StkIn (w : World) (b : Nat) (l : List Int) : Prop := w.heap[b]? = some (.cells (stkC l) 42 (0, 0))

theorem StkIn.below {w w' : World} {b : Nat} {l : List Int} (h : StkIn w b l) (hb : Below w.heap.size w w') : StkIn w' b l :=
  (hb.block b (Array.getElem?_eq_some_iff.1 h).1).trans h
theorem StkIn.under {w w' : World} {b B : Nat} {l : List Int} (h : StkIn w b l) (hb : Below B w w') (hB : b < B) : StkIn w' b l := (hb.block b hB).trans h

theorem stk_info : (Try.prog.info? 42).map (·.size) = some 9 := by kernel_rfl

theorem stkC_one (l : List Int) : (stkC l).all (·.oneCell') = true := by
  rw [Array.all_eq_true_iff_forall_mem]
  intro x hx
  simp only [stkC, stkL, ints, List.mem_toArray, List.mem_append, List.mem_map, List.mem_singleton] at hx
  rcases hx with ⟨y, _, rfl⟩ | rfl <;> rfl

/-- a whole system read out of a variable -/
theorem wp_loadStk {ops : Array Oper} {rest : List Oper} {o : Oper} {a : Act} {w : World} {Q : Exit → Act → World → Prop} (hgd : o.guard = none) (x : Operand) (ho : o.op = .load 42 x)
    (g : Nat) (l : List Int) (hl : l.length ≤ 8) (hx : a.eval x = .pointer (some ⟨g, 0, none⟩)) (hg : StkIn w g l)
    (h : wpList Try.prog ops Q rest (a.put o.dst (.agg (stkC l))) w) : wpList Try.prog ops Q (o :: rest) a w :=
  wpList_load_row hgd _ x ho g hx _ (stkC l) (0, 0) _ hg Try.underlying42 rfl (by rw [stk_info, stkC_size hl]) h

/-- the same where the load is guarded -/
theorem wp_loadStkG {ops : Array Oper} {rest : List Oper} {o : Oper} {a : Act} {w : World} {Q : Exit → Act → World → Prop} (x : Operand) (ho : o.op = .load 42 x)
    (g : Nat) (l : List Int) (hl : l.length ≤ 8) (hx : a.eval x = .pointer (some ⟨g, 0, none⟩)) (hg : StkIn w g l) (hw : Region.wanted o (yielded ops a.tmps) = true)
    (h : wpList Try.prog ops Q rest (a.put o.dst (.agg (stkC l))) w) : wpList Try.prog ops Q (o :: rest) a w :=
  wpList_wanted hw fun _ hK => wp_load_row _ x ho g hx _ (stkC l) (0, 0) _ hg Try.underlying42 rfl (by rw [stk_info, stkC_size hl]) (hK _ _ h)

/-- a whole system stored into a variable -/
theorem wp_storeStk {ops : Array Oper} {rest : List Oper} {o : Oper} {a : Act} {w : World} {Q : Exit → Act → World → Prop} (hgd : o.guard = none) (x y : Operand) (ho : o.op = .store 42 x y)
    (g : Nat) (l l0 : List Int) (hl : l.length ≤ 8) (hl0 : l0.length ≤ 8) (hx : a.eval x = .pointer (some ⟨g, 0, none⟩)) (hy : a.eval y = .agg (stkC l)) (hg : StkIn w g l0)
    (h : ∀ w', StkIn w' g l → w.grownBy w' (some g) → wpList Try.prog ops Q rest (a.put o.dst undef) w') : wpList Try.prog ops Q (o :: rest) a w := by
  refine wpList_store_row hgd _ x y ho g (stkC l) hx hy 42 (stkC l0) hg (by rw [stk_info, stkC_size hl]) (by rw [stkC_size hl, stkC_size hl0]) (stkC_one l) ?_
  refine h _ (setRow_heap w g _ _ _ _ hg) ⟨rfl, rfl, rfl, by simp, fun k _ hk => setRow_other w g k _ (fun e => hk (by simp [e]))⟩

/-- the empty system stored into a variable -/
theorem wp_storeStk0 {ops : Array Oper} {rest : List Oper} {o : Oper} {a : Act} {w : World} {Q : Exit → Act → World → Prop} (hgd : o.guard = none) (x y : Operand) (ho : o.op = .store 42 x y)
    (g : Nat) (l0 : List Int) (hl0 : l0.length ≤ 8) (hx : a.eval x = .pointer (some ⟨g, 0, none⟩)) (hy : a.eval y = .agg #[.int .i64 0, .int .i64 0, .int .i64 0, .int .i64 0, .int .i64 0, .int .i64 0, .int .i64 0, .int .i64 0, .int .i64 0]) (hg : StkIn w g l0)
    (h : ∀ w', StkIn w' g [] → w.grownBy w' (some g) → wpList Try.prog ops Q rest (a.put o.dst undef) w') : wpList Try.prog ops Q (o :: rest) a w :=
  wp_storeStk hgd x y ho g [] l0 (by simp) hl0 hx hy hg h

theorem StkIn.grown {w w' : World} {b g : Nat} {l : List Int} (h : StkIn w b l) (hg : w.grownBy w' (some g)) (hne : b ≠ g) : StkIn w' b l :=
  (hg.block b (Array.getElem?_eq_some_iff.1 h).1 (by simp; exact hne)).trans h

theorem StkIn.lt {w : World} {b : Nat} {l : List Int} (h : StkIn w b l) : b < w.heap.size := (Array.getElem?_eq_some_iff.1 h).1

theorem StkIn.rd {w : World} {b : Nat} {l : List Int} (h : StkIn w b l) (hl : l.length ≤ 8) : Rd w (.slice (some ⟨b, 0, none⟩) l.length 8) l := by
  refine ⟨_, 8, rfl, hl, by unfold maxLen; omega, by simp, .inr ⟨b, 0, rfl, fun k hk => ?_⟩⟩
  rw [Nat.zero_add, cell_of_row w b k _ _ _ h, stkC_get hl k (by omega)]

theorem StkIn.cell {w : World} {b : Nat} {l : List Int} (h : StkIn w b l) (hl : l.length ≤ 8) (k : Nat) (hk : k < 8) : w.cell? ⟨b, k, none⟩ = some (.int .i64 (l.getD k 0)) := by
  rw [cell_of_row w b k _ _ _ h, stkC_get hl k hk]
theorem StkIn.size {w : World} {b : Nat} {l : List Int} (h : StkIn w b l) (hl : l.length ≤ 8) : w.cell? ⟨b, 8, none⟩ = some (.int .i64 (l.length : Int)) := by
  rw [cell_of_row w b 8 _ _ _ h, stkC_last hl]
theorem StkIn.free {w : World} {b : Nat} {l : List Int} (h : StkIn w b l) (k : Nat) : w.frozen? ⟨b, k, none⟩ = false := frozen_of_row w b k _ _ h

set_option maxHeartbeats 1000000 in
theorem stkList_any (l : List Int) (w : World) (h : l.length ≤ 8) :
    Calls Try.prog 117 #[.agg (stkC l)] w fun e w' => ∃ v', e = .returned v' ∧ Own w.heap.size w' v' l ∧ Below w.heap.size w w' := by
  have hlast := stkC_last h
  obtain ⟨n, hn⟩ : ∃ n, n = l.length := ⟨_, rfl⟩
  rw [← hn] at hlast h
  have HN := Lib.hid hn; clear hn
  have hal := fun b w => run_stamps b n w h
  have hstk : StkIn (w.alloc (.cells (stkC l) 42)) w.heap.size l := heap_alloc_new w _
  go_enter Try.func117, Try.ntmps117
  go_wp2_with (first
    | (at_make; refine wp_make _ rfl _ _ rfl n _ _ rfl rfl rfl rfl (by omega) ?_; intro w1 hown hbel hsz; have hstk1 := hstk.below hbel; have hcs := hstk1.size (by rw [← HN.out]; exact h); rw [← HN.out] at hcs; have hrd := hstk1.rd (by rw [← HN.out]; exact h); rw [← HN.out] at hrd; simp only [World.size_alloc] at hown)
    | ((with_reducible refine wp_copy _ rfl (.tmp 7) (.tmp 11) rfl (w.heap.size + 1) (w.heap.size + 1) n n (.slice (some ⟨w.heap.size, 0, none⟩) n 8) (List.replicate n 0) l rfl rfl hown hrd HN.out.symm ?_); intro w2 x hown2 hgr hbel2))
  go_ret
  refine ⟨_, rfl, hown2.mono (by omega), ((Below.alloc1 w _).trans (hbel.mono (by simp))).trans (hbel2.mono (by omega))⟩


end Go.Proofs.Ytnkkgbecdckigaa
