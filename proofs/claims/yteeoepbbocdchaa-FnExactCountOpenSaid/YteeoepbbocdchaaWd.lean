/- The program's own words: points (an array and a size) and the index of each number, in a struct. -/
import Derived.Test.YteeoepbbocdchaaSlice
import Derived.Test.YteeoepbbocdchaaWdMath
import Derived.Test.YteeoepbbocdchaaNum
import Derived.Deep.QuietTactic
import Derived.BigQuiet
import Derived.Deep.MidRow
import Derived.RegionTactic
import Derived.BigRegion
import Derived.Deep.RegionHeld3
import Derived.Deep.RegionWith
namespace Go.Proofs.Yteeoepbbocdchaa
open Go.RowKit
set_option linter.unusedSimpArgs false
set_option linter.unusedVariables false

/-- the cells of points -/
def ptL (l : List Int) : List Value := ints (l ++ List.replicate (12 - l.length) 0) ++ [.int .i64 l.length]
def ptC (l : List Int) : Array Value := (ptL l).toArray

theorem ptL_length {l : List Int} (h : l.length ≤ 12) : (ptL l).length = 13 := by simp [ptL, ints]; omega
theorem ptC_size {l : List Int} (h : l.length ≤ 12) : (ptC l).size = 13 := by simp [ptC, ptL_length h]

theorem ptC_get {l : List Int} (h : l.length ≤ 12) (i : Nat) (hi : i < 12) : (ptC l)[i]? = some (.int .i64 (l.getD i 0)) := by
  simp only [ptC, List.getElem?_toArray, ptL]
  have hlen : (ints (l ++ List.replicate (12 - l.length) 0)).length = 12 := by simp [ints]; omega
  rw [List.getElem?_append_left (by omega)]
  simp only [ints, List.getElem?_map, List.getElem?_append, List.getD, List.getElem?_replicate]
  by_cases h1 : i < l.length
  · simp [h1]
  · simp [h1, show i - l.length < 12 - l.length by omega]

theorem ptC_last {l : List Int} (h : l.length ≤ 12) : (ptC l)[12]? = some (.int .i64 (l.length : Int)) := by
  simp only [ptC, List.getElem?_toArray, ptL]
  have hlen : (ints (l ++ List.replicate (12 - l.length) 0)).length = 12 := by simp [ints]; omega
  rw [List.getElem?_append_right (by omega), hlen]
  rfl


theorem wantedW {P : Program} {ops : Array Oper} {rest : List Oper} {o : Oper} {a : Act} {w : World} {Q : Exit → Act → World → Prop} (hw : Region.wanted o (yielded ops a.tmps) = true)
    (h : ∀ K : Act → World → Prop, (∀ a w, wpList P ops Q rest a w → K a w) → o.wp P a w K Q) : wpList P ops Q (o :: rest) a w :=
  wpList_step fun K hK => by rw [if_pos hw]; exact h K hK

theorem ptL_set {l : List Int} (i : Nat) (x : Int) (hi : i < l.length) : ptL (l.set i x) = (ptL l).set i (.int .i64 x) := by
  unfold ptL ints
  rw [List.length_set, List.set_append_left _ _ (by simp; omega)]
  congr 1
  rw [List.map_append, List.map_append, List.set_append_left _ _ (by simpa using hi), List.map_set]


theorem grownW_setCell {w : World} {b i : Nat} {v : Value} : w.grownBy (w.setCell ⟨b, i, none⟩ v) (some b) :=
  ⟨rfl, rfl, rfl, by simp, fun k _ hk => heap_setCell_other w ⟨b, i, none⟩ k _ (fun e => hk (by simp [e]))⟩
theorem grownW_trans {w w1 w2 : World} {b : Option Nat} (h1 : w.grownBy w1 b) (h2 : w1.grownBy w2 b) : w.grownBy w2 b :=
  ⟨h2.os.trans h1.os, h2.tape.trans h1.tape, h2.output.trans h1.output, Nat.le_trans h1.size h2.size, fun k hk hne => (h2.block k (Nat.lt_of_lt_of_le hk h1.size) hne).trans (h1.block k hk hne)⟩
theorem grownW_drewN {w w1 : World} {b : Option Nat} (h1 : w.grownBy w1 b) (q : Nat) : w.grownBy (w1.drewN q) b := ⟨h1.os, h1.tape, h1.output, h1.size, h1.block⟩


/-- the cells of a word -/
def wdL (p b : List Int) : List Value := ptL p ++ ints b
def wdC (p b : List Int) : Array Value := (wdL p b).toArray
/-- the index of each number of a word -/
def idxW (l : List Int) : List Int := idxK l l.length
theorem idxW_length (l : List Int) : (idxW l).length = 12 := idxK_length l _

theorem wdL_length {p b : List Int} (h : p.length ≤ 12) (hb : b.length = 12) : (wdL p b).length = 25 := by simp [wdL, ptL_length h, ints, hb]
theorem wdC_size {p b : List Int} (h : p.length ≤ 12) (hb : b.length = 12) : (wdC p b).size = 25 := by simp [wdC, wdL_length h hb]

theorem wdC_left {p b : List Int} (h : p.length ≤ 12) (i : Nat) (hi : i < 13) : (wdC p b)[i]? = (ptC p)[i]? := by
  simp only [wdC, List.getElem?_toArray, wdL, ptC]
  rw [List.getElem?_append_left (by rw [ptL_length h]; exact hi)]
theorem wdC_get {p b : List Int} (h : p.length ≤ 12) (i : Nat) (hi : i < 12) : (wdC p b)[i]? = some (.int .i64 (p.getD i 0)) := by
  rw [wdC_left h i (by omega), ptC_get h i hi]
theorem wdC_last {p b : List Int} (h : p.length ≤ 12) : (wdC p b)[12]? = some (.int .i64 (p.length : Int)) := by
  rw [wdC_left h 12 (by omega), ptC_last h]
theorem wdC_idx {p b : List Int} (h : p.length ≤ 12) (hb : b.length = 12) (x : Nat) (hx : x < 12) : (wdC p b)[13 + x]? = some (.int .i64 (b.getD x 0)) := by
  simp only [wdC, List.getElem?_toArray, wdL]
  rw [List.getElem?_append_right (by rw [ptL_length h]; omega), ptL_length h, Nat.add_sub_cancel_left]
  simp only [ints, List.getElem?_map, List.getD, List.getElem?_eq_getElem (show x < b.length by omega)]
  rfl

def WdIn (w : World) (g : Nat) (p b : List Int) : Prop := w.heap[g]? = some (.cells (wdC p b) 72 (0, 0))
def PtIn (w : World) (g : Nat) (p : List Int) : Prop := w.heap[g]? = some (.cells (ptC p) 70 (0, 0))

theorem WdIn.lt {w : World} {g : Nat} {p b : List Int} (h : WdIn w g p b) : g < w.heap.size := (Array.getElem?_eq_some_iff.1 h).1
theorem PtIn.lt {w : World} {g : Nat} {p : List Int} (h : PtIn w g p) : g < w.heap.size := (Array.getElem?_eq_some_iff.1 h).1
theorem WdIn.below {w w' : World} {g : Nat} {p b : List Int} (h : WdIn w g p b) (hb : Below w.heap.size w w') : WdIn w' g p b := (hb.block g h.lt).trans h
theorem PtIn.below {w w' : World} {g : Nat} {p : List Int} (h : PtIn w g p) (hb : Below w.heap.size w w') : PtIn w' g p := (hb.block g h.lt).trans h
theorem WdIn.under {w w' : World} {g B : Nat} {p b : List Int} (h : WdIn w g p b) (hb : Below B w w') (hB : g < B) : WdIn w' g p b := (hb.block g hB).trans h
theorem PtIn.under {w w' : World} {g B : Nat} {p : List Int} (h : PtIn w g p) (hb : Below B w w') (hB : g < B) : PtIn w' g p := (hb.block g hB).trans h
theorem WdIn.grown {w w' : World} {g k : Nat} {p b : List Int} (h : WdIn w g p b) (hg : w.grownBy w' (some k)) (hne : g ≠ k) : WdIn w' g p b :=
  (hg.block g h.lt (by simp; exact hne)).trans h

theorem wd_info : (Try.prog.info? 72).map (·.size) = some 25 := by kernel_rfl
theorem pt_info : (Try.prog.info? 70).map (·.size) = some 13 := by kernel_rfl

theorem wdC_one (p b : List Int) : (wdC p b).all (·.oneCell') = true := by
  rw [Array.all_eq_true_iff_forall_mem]
  intro x hx
  simp only [wdC, wdL, ptL, ints, List.mem_toArray, List.mem_append, List.mem_map, List.mem_singleton] at hx
  rcases hx with (⟨y, _, rfl⟩ | rfl) | ⟨y, _, rfl⟩ <;> rfl

theorem WdIn.cell {w : World} {g : Nat} {p b : List Int} (h : WdIn w g p b) (hl : p.length ≤ 12) (k : Nat) (hk : k < 12) : w.cell? ⟨g, k, none⟩ = some (.int .i64 (p.getD k 0)) := by
  rw [cell_of_row w g k _ _ _ h, wdC_get hl k hk]
theorem WdIn.size {w : World} {g : Nat} {p b : List Int} (h : WdIn w g p b) (hl : p.length ≤ 12) : w.cell? ⟨g, 12, none⟩ = some (.int .i64 (p.length : Int)) := by
  rw [cell_of_row w g 12 _ _ _ h, wdC_last hl]
theorem WdIn.idx {w : World} {g : Nat} {p b : List Int} (h : WdIn w g p b) (hl : p.length ≤ 12) (hb : b.length = 12) (x : Nat) (hx : x < 12) : w.cell? ⟨g, 13 + x, none⟩ = some (.int .i64 (b.getD x 0)) := by
  rw [cell_of_row w g (13 + x) _ _ _ h, wdC_idx hl hb x hx]
theorem WdIn.free {w : World} {g : Nat} {p b : List Int} (h : WdIn w g p b) (k : Nat) : w.frozen? ⟨g, k, none⟩ = false := frozen_of_row w g k _ _ h
theorem PtIn.cell {w : World} {g : Nat} {p : List Int} (h : PtIn w g p) (hl : p.length ≤ 12) (k : Nat) (hk : k < 12) : w.cell? ⟨g, k, none⟩ = some (.int .i64 (p.getD k 0)) := by
  rw [cell_of_row w g k _ _ _ h, ptC_get hl k hk]
theorem PtIn.size {w : World} {g : Nat} {p : List Int} (h : PtIn w g p) (hl : p.length ≤ 12) : w.cell? ⟨g, 12, none⟩ = some (.int .i64 (p.length : Int)) := by
  rw [cell_of_row w g 12 _ _ _ h, ptC_last hl]
theorem PtIn.rd {w : World} {b : Nat} {l : List Int} (h : PtIn w b l) (hl : l.length ≤ 12) : Rd w (.slice (some ⟨b, 0, none⟩) l.length 12) l := by
  refine ⟨_, 12, rfl, hl, by unfold maxLen; omega, by simp, .inr ⟨b, 0, rfl, fun k hk => ?_⟩⟩
  rw [Nat.zero_add, cell_of_row w b k _ _ _ h, ptC_get hl k (by omega)]
theorem WdIn.rd {w : World} {g : Nat} {l b : List Int} (h : WdIn w g l b) (hl : l.length ≤ 12) : Rd w (.slice (some ⟨g, 0, none⟩) l.length 12) l := by
  refine ⟨_, 12, rfl, hl, by unfold maxLen; omega, by simp, .inr ⟨g, 0, rfl, fun k hk => ?_⟩⟩
  rw [Nat.zero_add, cell_of_row w g k _ _ _ h, wdC_get hl k (by omega)]

/-- a whole word read out of a variable -/
theorem wp_loadWd {ops : Array Oper} {rest : List Oper} {o : Oper} {a : Act} {w : World} {Q : Exit → Act → World → Prop} (hgd : o.guard = none) (x : Operand) (ho : o.op = .load 72 x)
    (g : Nat) (p b : List Int) (hl : p.length ≤ 12) (hb : b.length = 12) (hx : a.eval x = .pointer (some ⟨g, 0, none⟩)) (hg : WdIn w g p b)
    (h : wpList Try.prog ops Q rest (a.put o.dst (.agg (wdC p b))) w) : wpList Try.prog ops Q (o :: rest) a w :=
  wpList_load_row hgd _ x ho g hx _ (wdC p b) (0, 0) _ hg Try.underlying72 rfl (by rw [wd_info, wdC_size hl hb]) h
theorem wp_loadWdG {ops : Array Oper} {rest : List Oper} {o : Oper} {a : Act} {w : World} {Q : Exit → Act → World → Prop} (x : Operand) (ho : o.op = .load 72 x)
    (g : Nat) (p b : List Int) (hl : p.length ≤ 12) (hb : b.length = 12) (hx : a.eval x = .pointer (some ⟨g, 0, none⟩)) (hg : WdIn w g p b) (hw : Region.wanted o (yielded ops a.tmps) = true)
    (h : wpList Try.prog ops Q rest (a.put o.dst (.agg (wdC p b))) w) : wpList Try.prog ops Q (o :: rest) a w :=
  wantedW hw fun _ hK => wp_load_row _ x ho g hx _ (wdC p b) (0, 0) _ hg Try.underlying72 rfl (by rw [wd_info, wdC_size hl hb]) (hK _ _ h)
theorem wp_loadPt {ops : Array Oper} {rest : List Oper} {o : Oper} {a : Act} {w : World} {Q : Exit → Act → World → Prop} (hgd : o.guard = none) (x : Operand) (ho : o.op = .load 70 x)
    (g : Nat) (p : List Int) (hl : p.length ≤ 12) (hx : a.eval x = .pointer (some ⟨g, 0, none⟩)) (hg : PtIn w g p)
    (h : wpList Try.prog ops Q rest (a.put o.dst (.agg (ptC p))) w) : wpList Try.prog ops Q (o :: rest) a w :=
  wpList_load_row hgd _ x ho g hx _ (ptC p) (0, 0) _ hg Try.underlying70 rfl (by rw [pt_info, ptC_size hl]) h

theorem wp_loadPtG {ops : Array Oper} {rest : List Oper} {o : Oper} {a : Act} {w : World} {Q : Exit → Act → World → Prop} (x : Operand) (ho : o.op = .load 70 x)
    (g : Nat) (p : List Int) (hl : p.length ≤ 12) (hx : a.eval x = .pointer (some ⟨g, 0, none⟩)) (hg : PtIn w g p) (hw : Region.wanted o (yielded ops a.tmps) = true)
    (h : wpList Try.prog ops Q rest (a.put o.dst (.agg (ptC p))) w) : wpList Try.prog ops Q (o :: rest) a w :=
  wantedW hw fun _ hK => wp_load_row _ x ho g hx _ (ptC p) (0, 0) _ hg Try.underlying70 rfl (by rw [pt_info, ptC_size hl]) (hK _ _ h)

theorem WdIn.ptRange {w : World} {g : Nat} {p b : List Int} (h : WdIn w g p b) (hl : p.length ≤ 12) : w.rangeAt g 0 (ptL p) := by
  intro j v hv
  have hj : j < 13 := by
    have := (List.getElem?_eq_some_iff.1 hv).1
    rwa [ptL_length hl] at this
  rw [Nat.zero_add, cell_of_row w g _ _ _ _ h, wdC_left hl j hj]
  simpa [ptC] using hv
/-- the points of a word's variable, which the word embeds -/
theorem wp_loadPtW {ops : Array Oper} {rest : List Oper} {o : Oper} {a : Act} {w : World} {Q : Exit → Act → World → Prop} (hgd : o.guard = none) (x : Operand) (ho : o.op = .load 70 x)
    (g : Nat) (p b : List Int) (hl : p.length ≤ 12) (hx : a.eval x = .pointer (some ⟨g, 0, none⟩)) (hg : WdIn w g p b)
    (h : wpList Try.prog ops Q rest (a.put o.dst (.agg (ptC p))) w) : wpList Try.prog ops Q (o :: rest) a w :=
  wpList_load_mid hgd _ x ho g 0 hx (ptL p) _ (hg.ptRange hl) Try.underlying70 rfl (by rw [pt_info, ptL_length hl]) h

theorem wp_loadPtWG {ops : Array Oper} {rest : List Oper} {o : Oper} {a : Act} {w : World} {Q : Exit → Act → World → Prop} (x : Operand) (ho : o.op = .load 70 x)
    (g : Nat) (p b : List Int) (hl : p.length ≤ 12) (hx : a.eval x = .pointer (some ⟨g, 0, none⟩)) (hg : WdIn w g p b) (hw : Region.wanted o (yielded ops a.tmps) = true)
    (h : wpList Try.prog ops Q rest (a.put o.dst (.agg (ptC p))) w) : wpList Try.prog ops Q (o :: rest) a w :=
  wantedW hw fun _ hK => wp_load_mid _ x ho g 0 hx (ptL p) _ (hg.ptRange hl) Try.underlying70 rfl (by rw [pt_info, ptL_length hl]) (hK _ _ h)

/-- a whole word stored into a variable -/
theorem wp_storeWd {ops : Array Oper} {rest : List Oper} {o : Oper} {a : Act} {w : World} {Q : Exit → Act → World → Prop} (hgd : o.guard = none) (x y : Operand) (ho : o.op = .store 72 x y)
    (g : Nat) (p b p0 b0 : List Int) (hl : p.length ≤ 12) (hb : b.length = 12) (hl0 : p0.length ≤ 12) (hb0 : b0.length = 12) (hx : a.eval x = .pointer (some ⟨g, 0, none⟩)) (hy : a.eval y = .agg (wdC p b)) (hg : WdIn w g p0 b0)
    (h : ∀ w', WdIn w' g p b → w.grownBy w' (some g) → wpList Try.prog ops Q rest (a.put o.dst undef) w') : wpList Try.prog ops Q (o :: rest) a w := by
  refine wpList_store_row hgd _ x y ho g (wdC p b) hx hy 72 (wdC p0 b0) hg (by rw [wd_info, wdC_size hl hb]) (by rw [wdC_size hl hb, wdC_size hl0 hb0]) (wdC_one p b) ?_
  refine h _ (setRow_heap w g _ _ _ _ hg) ⟨rfl, rfl, rfl, by simp, fun k _ hk => setRow_other w g k _ (fun e => hk (by simp [e]))⟩

def zero12 : List Int := List.replicate 12 0
def zero25 : Array Value := #[.int .i64 0, .int .i64 0, .int .i64 0, .int .i64 0, .int .i64 0, .int .i64 0, .int .i64 0, .int .i64 0, .int .i64 0, .int .i64 0, .int .i64 0, .int .i64 0, .int .i64 0, .int .i64 0, .int .i64 0, .int .i64 0, .int .i64 0, .int .i64 0, .int .i64 0, .int .i64 0, .int .i64 0, .int .i64 0, .int .i64 0, .int .i64 0, .int .i64 0]
theorem wdC_zero : wdC [] zero12 = zero25 := rfl

/-- 'w := ..': a word stored into a variable that has just been laid -/
theorem wp_storeNewWd {ops : Array Oper} {rest : List Oper} {o : Oper} {a : Act} {Q : Exit → Act → World → Prop} (hgd : o.guard = none) (x y : Operand) (ho : o.op = .store 72 x y)
    (w : World) (p b : List Int) (hl : p.length ≤ 12) (hb : b.length = 12) (hx : a.eval x = .pointer (some ⟨w.heap.size, 0, none⟩)) (hy : a.eval y = .agg (wdC p b))
    (h : ∀ w', WdIn w' w.heap.size p b → Below w.heap.size w w' → wpList Try.prog ops Q rest (a.put o.dst undef) w') : wpList Try.prog ops Q (o :: rest) a (w.alloc (.cells #[.int .i64 0, .int .i64 0, .int .i64 0, .int .i64 0, .int .i64 0, .int .i64 0, .int .i64 0, .int .i64 0, .int .i64 0, .int .i64 0, .int .i64 0, .int .i64 0, .int .i64 0, .int .i64 0, .int .i64 0, .int .i64 0, .int .i64 0, .int .i64 0, .int .i64 0, .int .i64 0, .int .i64 0, .int .i64 0, .int .i64 0, .int .i64 0, .int .i64 0] 72)) := by
  refine wp_storeWd hgd x y ho w.heap.size p b [] zero12 hl hb (by simp) (by simp [zero12]) hx hy (show WdIn (w.alloc (.cells (wdC [] zero12) 72)) w.heap.size [] zero12 from heap_alloc_new w _) ?_
  intro w' hs hg
  exact h w' hs ((Below.alloc1 w _).grown hg (by simp) (by intro k hk; simp at hk; omega))

theorem run_loadWd (w : World) (g : Nat) (p b : List Int) (hl : p.length ≤ 12) (hb : b.length = 12) (hg : WdIn w g p b) : (loadVar 72 ⟨g, 0, none⟩).run Try.prog w = .ok (.agg (wdC p b)) w :=
  run_loadVar_row w g _ _ (wdC p b) _ _ hg Try.underlying72 rfl (by rw [wd_info, wdC_size hl hb])

theorem wdL_set {p b : List Int} (i : Nat) (x : Int) (hp : p.length ≤ 12) (hi : i < p.length) : wdL (p.set i x) b = (wdL p b).set i (.int .i64 x) := by
  unfold wdL
  rw [ptL_set i x hi, List.set_append_left _ _ (by rw [ptL_length hp]; omega)]
theorem wdL_seti {p b : List Int} (i : Nat) (x : Int) (hp : p.length ≤ 12) : wdL p (b.set i x) = (wdL p b).set (13 + i) (.int .i64 x) := by
  unfold wdL ints
  rw [List.set_append_right _ _ (by rw [ptL_length hp]; omega), ptL_length hp, Nat.add_sub_cancel_left, List.map_set]
theorem WdIn.put {w : World} {g : Nat} {p b : List Int} (h : WdIn w g p b) (hp : p.length ≤ 12) (i : Nat) (x : Int) (hi : i < p.length) : WdIn (w.setCell ⟨g, i, none⟩ (.int .i64 x)) g (p.set i x) b := by
  have := heap_setCell_same w g i _ _ (.int .i64 x) h
  unfold WdIn
  rw [this]
  unfold wdC
  rw [wdL_set i x hp hi]
  simp
theorem WdIn.puti {w : World} {g : Nat} {p b : List Int} (h : WdIn w g p b) (hp : p.length ≤ 12) (i : Nat) (x : Int) : WdIn (w.setCell ⟨g, 13 + i, none⟩ (.int .i64 x)) g p (b.set i x) := by
  have := heap_setCell_same w g (13 + i) _ _ (.int .i64 x) h
  unfold WdIn
  rw [this]
  unfold wdC
  rw [wdL_seti i x hp]
  simp
theorem WdIn.other {w : World} {g k i : Nat} {v : Value} {p b : List Int} (h : WdIn w g p b) (hne : g ≠ k) : WdIn (w.setCell ⟨k, i, none⟩ v) g p b :=
  (heap_setCell_other w ⟨k, i, none⟩ g _ hne).trans h

end Go.Proofs.Yteeoepbbocdchaa
