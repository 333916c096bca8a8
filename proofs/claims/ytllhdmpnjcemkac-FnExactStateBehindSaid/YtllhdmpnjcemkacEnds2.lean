/- The program's own ends: an array of parts and a size, in a struct (mk/ends.py). -/
/- The program's ends: read from a list, told as a list. -/
import Derived.Test.YtllhdmpnjcemkacSys
import Derived.Test.YtllhdmpnjcemkacStateMath
import Derived.Deep.QuietTactic
import Derived.BigQuiet
import Derived.Laws.CopyOwn
import Derived.Test.YtllhdmpnjcemkacRead
namespace Go.Proofs.Ytllhdmpnjcemkac
open Go.RowKit
set_option linter.unusedSimpArgs false
set_option linter.unusedVariables false

/-- the cells of a system -/
def endL (l : List Int) : List Value := ints (l ++ List.replicate (6 - l.length) 0) ++ [.int .i64 l.length]
def endC (l : List Int) : Array Value := (endL l).toArray

theorem endL_length {l : List Int} (h : l.length ≤ 6) : (endL l).length = 7 := by simp [endL, ints]; omega
theorem endC_size {l : List Int} (h : l.length ≤ 6) : (endC l).size = 7 := by simp [endC, endL_length h]

theorem endC_get {l : List Int} (h : l.length ≤ 6) (i : Nat) (hi : i < 6) : (endC l)[i]? = some (.int .i64 (l.getD i 0)) := by
  simp only [endC, List.getElem?_toArray, endL]
  have hlen : (ints (l ++ List.replicate (6 - l.length) 0)).length = 6 := by simp [ints]; omega
  rw [List.getElem?_append_left (by omega)]
  simp only [ints, List.getElem?_map, List.getElem?_append, List.getD, List.getElem?_replicate]
  by_cases h1 : i < l.length
  · simp [h1]
  · simp [h1, show i - l.length < 6 - l.length by omega]

theorem endC_last {l : List Int} (h : l.length ≤ 6) : (endC l)[6]? = some (.int .i64 (l.length : Int)) := by
  simp only [endC, List.getElem?_toArray, endL]
  have hlen : (ints (l ++ List.replicate (6 - l.length) 0)).length = 6 := by simp [ints]; omega
  rw [List.getElem?_append_right (by omega), hlen]
  rfl

theorem arrayLen6 : Try.prog.arrayLen 73 = 6 := by kernel_rfl
theorem arrayElem6 : Try.prog.elem 73 = 3 := by kernel_rfl
theorem arrayUnder6 : Try.prog.underlying 73 = some (.array 6 3) := by kernel_rfl

/-- 's.mate[:n]' -/
theorem run_parts (b n : Nat) (w : World) (hn : n ≤ 6) : (Instr.sliceAt 73 (.pointer (some ⟨b, 0, none⟩)) none (some (.int .i64 (n : Int))) none).run Try.prog w = .ok (.slice (some ⟨b, 0, none⟩) n 6) w := by
  have h := run_sliceAt_array_h (P := Try.prog) w 73 ⟨b, 0, none⟩ (by rw [arrayLen6, arrayElem6]; exact arrayUnder6) .i64 (n : Int) (by omega) (by rw [arrayLen6]; omega)
  rw [h, arrayLen6, arrayElem6]
  obtain ⟨i0, hi, hz0, hz1, hz2⟩ := info_parts Try.info3
  simp [sizeOf, typeInfo, hi, hz1, slicedAt, Result.andThen, Addr.add]
/-- 's.mate[:]' -/
theorem run_parts_all (b : Nat) (w : World) : (Instr.sliceAt 73 (.pointer (some ⟨b, 0, none⟩)) none none none).run Try.prog w = .ok (.slice (some ⟨b, 0, none⟩) 6 6) w := by
  have h := run_sliceAt_array_all (P := Try.prog) w 73 ⟨b, 0, none⟩ (by rw [arrayLen6, arrayElem6]; exact arrayUnder6)
  rw [h, arrayLen6, arrayElem6]
  obtain ⟨i0, hi, hz0, hz1, hz2⟩ := info_parts Try.info3
  simp [sizeOf, typeInfo, hi, hz1, slicedAt, Result.andThen, Addr.add]

def EndIn (w : World) (b : Nat) (l : List Int) : Prop := w.heap[b]? = some (.cells (endC l) 75 (0, 0))

theorem EndIn.below {w w' : World} {b : Nat} {l : List Int} (h : EndIn w b l) (hb : Below w.heap.size w w') : EndIn w' b l :=
  (hb.block b (Array.getElem?_eq_some_iff.1 h).1).trans h
theorem EndIn.under {w w' : World} {b B : Nat} {l : List Int} (h : EndIn w b l) (hb : Below B w w') (hB : b < B) : EndIn w' b l := (hb.block b hB).trans h

theorem end_info : (Try.prog.info? 75).map (·.size) = some 7 := by kernel_rfl

theorem endC_one (l : List Int) : (endC l).all (·.oneCell') = true := by
  rw [Array.all_eq_true_iff_forall_mem]
  intro x hx
  simp only [endC, endL, ints, List.mem_toArray, List.mem_append, List.mem_map, List.mem_singleton] at hx
  rcases hx with ⟨y, _, rfl⟩ | rfl <;> rfl

/-- a whole system read out of a variable -/
theorem wp_loadEnd {ops : Array Oper} {rest : List Oper} {o : Oper} {a : Act} {w : World} {Q : Exit → Act → World → Prop} (hgd : o.guard = none) (x : Operand) (ho : o.op = .load 75 x)
    (g : Nat) (l : List Int) (hl : l.length ≤ 6) (hx : a.eval x = .pointer (some ⟨g, 0, none⟩)) (hg : EndIn w g l)
    (h : wpList Try.prog ops Q rest (a.put o.dst (.agg (endC l))) w) : wpList Try.prog ops Q (o :: rest) a w :=
  wpList_load_row hgd _ x ho g hx _ (endC l) (0, 0) _ hg Try.underlying75 rfl (by rw [end_info, endC_size hl]) h

/-- the same where the load is guarded -/
theorem wp_loadEndG {ops : Array Oper} {rest : List Oper} {o : Oper} {a : Act} {w : World} {Q : Exit → Act → World → Prop} (x : Operand) (ho : o.op = .load 75 x)
    (g : Nat) (l : List Int) (hl : l.length ≤ 6) (hx : a.eval x = .pointer (some ⟨g, 0, none⟩)) (hg : EndIn w g l) (hw : Region.wanted o (yielded ops a.tmps) = true)
    (h : wpList Try.prog ops Q rest (a.put o.dst (.agg (endC l))) w) : wpList Try.prog ops Q (o :: rest) a w :=
  wpList_wanted hw fun _ hK => wp_load_row _ x ho g hx _ (endC l) (0, 0) _ hg Try.underlying75 rfl (by rw [end_info, endC_size hl]) (hK _ _ h)

/-- a whole system stored into a variable -/
theorem wp_storeEnd {ops : Array Oper} {rest : List Oper} {o : Oper} {a : Act} {w : World} {Q : Exit → Act → World → Prop} (hgd : o.guard = none) (x y : Operand) (ho : o.op = .store 75 x y)
    (g : Nat) (l l0 : List Int) (hl : l.length ≤ 6) (hl0 : l0.length ≤ 6) (hx : a.eval x = .pointer (some ⟨g, 0, none⟩)) (hy : a.eval y = .agg (endC l)) (hg : EndIn w g l0)
    (h : ∀ w', EndIn w' g l → w.grownBy w' (some g) → wpList Try.prog ops Q rest (a.put o.dst undef) w') : wpList Try.prog ops Q (o :: rest) a w := by
  refine wpList_store_row hgd _ x y ho g (endC l) hx hy 75 (endC l0) hg (by rw [end_info, endC_size hl]) (by rw [endC_size hl, endC_size hl0]) (endC_one l) ?_
  refine h _ (setRow_heap w g _ _ _ _ hg) ⟨rfl, rfl, rfl, by simp, fun k _ hk => setRow_other w g k _ (fun e => hk (by simp [e]))⟩

/-- the empty system stored into a variable -/
theorem wp_storeEnd0 {ops : Array Oper} {rest : List Oper} {o : Oper} {a : Act} {w : World} {Q : Exit → Act → World → Prop} (hgd : o.guard = none) (x y : Operand) (ho : o.op = .store 75 x y)
    (g : Nat) (l0 : List Int) (hl0 : l0.length ≤ 6) (hx : a.eval x = .pointer (some ⟨g, 0, none⟩)) (hy : a.eval y = .agg #[.int .i64 0, .int .i64 0, .int .i64 0, .int .i64 0, .int .i64 0, .int .i64 0, .int .i64 0]) (hg : EndIn w g l0)
    (h : ∀ w', EndIn w' g [] → w.grownBy w' (some g) → wpList Try.prog ops Q rest (a.put o.dst undef) w') : wpList Try.prog ops Q (o :: rest) a w :=
  wp_storeEnd hgd x y ho g [] l0 (by simp) hl0 hx hy hg h

theorem EndIn.grown {w w' : World} {b g : Nat} {l : List Int} (h : EndIn w b l) (hg : w.grownBy w' (some g)) (hne : b ≠ g) : EndIn w' b l :=
  (hg.block b (Array.getElem?_eq_some_iff.1 h).1 (by simp; exact hne)).trans h

theorem EndIn.lt {w : World} {b : Nat} {l : List Int} (h : EndIn w b l) : b < w.heap.size := (Array.getElem?_eq_some_iff.1 h).1

theorem EndIn.rd {w : World} {b : Nat} {l : List Int} (h : EndIn w b l) (hl : l.length ≤ 6) : Rd w (.slice (some ⟨b, 0, none⟩) l.length 6) l := by
  refine ⟨_, 6, rfl, hl, by unfold maxLen; omega, by simp, .inr ⟨b, 0, rfl, fun k hk => ?_⟩⟩
  rw [Nat.zero_add, cell_of_row w b k _ _ _ h, endC_get hl k (by omega)]

theorem EndIn.cell {w : World} {b : Nat} {l : List Int} (h : EndIn w b l) (hl : l.length ≤ 6) (k : Nat) (hk : k < 6) : w.cell? ⟨b, k, none⟩ = some (.int .i64 (l.getD k 0)) := by
  rw [cell_of_row w b k _ _ _ h, endC_get hl k hk]
theorem EndIn.size {w : World} {b : Nat} {l : List Int} (h : EndIn w b l) (hl : l.length ≤ 6) : w.cell? ⟨b, 6, none⟩ = some (.int .i64 (l.length : Int)) := by
  rw [cell_of_row w b 6 _ _ _ h, endC_last hl]
theorem EndIn.free {w : World} {b : Nat} {l : List Int} (h : EndIn w b l) (k : Nat) : w.frozen? ⟨b, k, none⟩ = false := frozen_of_row w b k _ _ h


/-- the cells of a stack, one by one -/
def endV (l : List Int) (i : Nat) : Value := if i < 6 then .int .i64 (l.getD i 0) else .int .i64 l.length
theorem endC_lit {l : List Int} (h : l.length ≤ 6) : endC l = #[endV l 0, endV l 1, endV l 2, endV l 3, endV l 4, endV l 5, endV l 6] := by
  refine Array.ext (by rw [endC_size h]; rfl) fun i h1 h2 => ?_
  have hi : i < 7 := by rw [endC_size h] at h1; exact h1
  have e : (endC l)[i]? = some (endV l i) := by
    unfold endV
    split
    · next h3 => exact endC_get h i h3
    · obtain rfl : i = 6 := by omega
      exact endC_last h
  rw [Array.getElem?_eq_getElem h1] at e
  have e2 : i = 0 ∨ i = 1 ∨ i = 2 ∨ i = 3 ∨ i = 4 ∨ i = 5 ∨ i = 6 := by omega
  rcases e2 with rfl | rfl | rfl | rfl | rfl | rfl | rfl <;> simpa using e
theorem end_cell {w : World} {b : Nat} {l : List Int} (hl : l.length ≤ 6) (h : EndIn w b l) (i : Nat) (hi : i < 7) : w.cell? ⟨b, i, none⟩ = some (endV l i) := by
  unfold endV
  split
  · next h3 => exact h.cell hl i h3
  · obtain rfl : i = 6 := by omega
    exact h.size hl


end Go.Proofs.Ytllhdmpnjcemkac

namespace Go.Proofs.Ytllhdmpnjcemkac
open Go.RowKit
set_option linter.unusedSimpArgs false
set_option linter.unusedVariables false

theorem Own.cells {B g n : Nat} {w : World} {l : List Int} (h : Own B w (.slice (some ⟨g, 0, none⟩) n n) l) : w.heap[g]? = some (.cells (ints l).toArray 3 (0, 0)) ∧ B ≤ g ∧ n = l.length := by
  rcases h.2 with ⟨h0, _⟩ | ⟨g', cap, cur, hv, hB, hg, hnc, hcm, hcs, ht⟩
  · cases h0
  · simp only [Value.slice.injEq, Option.some.injEq, Addr.mk.injEq, and_true, true_and] at hv
    obtain ⟨rfl, hn, rfl⟩ := hv
    refine ⟨?_, hB, hn⟩
    rw [hg]
    have e : cur = (ints l).toArray := by
      apply Array.toList_inj.1
      rw [← ht, List.take_of_length_le (by simp; omega)]
    rw [e]
theorem Own.of_cells {B g : Nat} {w : World} {l : List Int} (h : w.heap[g]? = some (.cells (ints l).toArray 3 (0, 0))) (hB : B ≤ g) (hl : l.length ≤ maxLen) : Own B w (.slice (some ⟨g, 0, none⟩) l.length l.length) l :=
  ⟨by simp [ints], .inr ⟨g, l.length, _, rfl, hB, h, Nat.le_refl _, hl, by simp [ints], List.take_of_length_le (by simp [ints])⟩⟩
theorem splice_full (l : List Int) (n : Nat) (h : l.length = n) : splice (ints (List.replicate n 0)) 0 (ints l) = ints l := by
  unfold splice
  rw [List.take_zero, ints_length, List.nil_append, List.drop_of_length_le (by simp [ints, h]), List.append_nil]

/-- the array filled from the list -/
theorem splice_end (l : List Int) (hl : l.length ≤ 6) (n : Nat) (hn : n = l.length) : splice [.int .i64 0, .int .i64 0, .int .i64 0, .int .i64 0, .int .i64 0, .int .i64 0, .int .i64 (n : Int)] 0 (ints l) = endL l := by
  subst hn
  show splice (ints (List.replicate 6 0) ++ [.int .i64 (l.length : Int)]) 0 (ints l) = endL l
  unfold splice endL ints
  have e : List.replicate 6 (0 : Int) = List.replicate l.length 0 ++ List.replicate (6 - l.length) 0 := by
    rw [List.replicate_append_replicate]; congr 1; omega
  rw [e, List.map_append, List.map_append, List.map_replicate, List.append_assoc, List.length_map, Nat.zero_add, List.drop_left' (by simp)]
  simp

theorem run_loadEnd (w : World) (g : Nat) (l : List Int) (hl : l.length ≤ 6) (hg : EndIn w g l) : (loadVar 75 ⟨g, 0, none⟩).run Try.prog w = .ok (.agg (endC l)) w :=
  run_loadVar_row w g _ _ (endC l) _ _ hg Try.underlying75 rfl (by rw [end_info, endC_size hl])
theorem results_rends (tmps : Array Value) (w : World) (g : Nat) (l : List Int) (b : Bool) (hl : l.length ≤ 6) (hg : EndIn w g l) (h2 : tmps.getD 2 undef = .pointer (some ⟨g, 0, none⟩)) (h3 : tmps.getD 3 undef = .bool b) :
    (results Try.f87 tmps).run Try.prog w = .ok (.tuple #[.agg (endC l), .bool b]) w := by
  have h2' : tmps[2]?.getD undef = .pointer (some ⟨g, 0, none⟩) := by simpa using h2
  have h3' : tmps[3]?.getD undef = .bool b := by simpa using h3
  have hr : Try.f87.results = #[.cell 2 75, .tmp 3] := by kernel_rfl
  simp [results, hr, h2', h3', asAddr, run_loadEnd w g l hl hg]

def EndOut (w : World) (l : List Int) (b : Bool) (e : Ending) (w' : World) : Prop := e = .returned (.tuple #[.agg (endC l), .bool b]) ∧ Below w.heap.size w w'
set_option maxHeartbeats 1000000 in
theorem readEnds_no (v : Value) (l : List Int) (w : World) (h : Rd w v l) (hc : 6 < l.length) :
    Calls Try.prog 87 #[v] w (EndOut w [] false) := by
  obtain ⟨a, c, rfl, hlc, hcm, hnc, hrd⟩ := h
  obtain ⟨n, hn⟩ : ∃ n, n = l.length := ⟨_, rfl⟩
  rw [← hn] at hlc hc ⊢
  unfold maxLen at hcm
  clear hrd hn hnc
  go_enter Try.func87, Try.ntmps87
  go_wp2
  refine bodyPost_ret (results_rends _ _ w.heap.size [] false (by simp) ?_ rfl rfl) rfl ⟨rfl, Below.alloc1 _ _⟩
  exact heap_alloc_new w _

theorem end0_of {w w1 : World} (h : Below (w.heap.size + 1) (w.alloc (.cells #[.int .i64 0, .int .i64 0, .int .i64 0, .int .i64 0, .int .i64 0, .int .i64 0, .int .i64 0] 75)) w1) : EndIn w1 w.heap.size [] :=
  EndIn.under (show EndIn (w.alloc (.cells (endC []) 75)) w.heap.size [] from heap_alloc_new w _) h (Nat.lt_succ_self _)
theorem ends_below1 {w w1 w3 : World} {A : Obj} (h1 : Below (w.heap.size + 1) (w.alloc A) w1) (h3 : w1.grownBy w3 (some w.heap.size)) : Below w.heap.size w w3 := by
  have hs : w.heap.size ≤ w1.heap.size := by have := h1.size; simp at this; omega
  exact ((Below.alloc1 w A).trans (h1.mono (Nat.le_succ _))).grown h3 (by omega) (by intro k hk; simp at hk; omega)

set_option maxHeartbeats 2000000 in
theorem readEnds_yes (v : Value) (l : List Int) (w : World) (h : Rd w v l) (h6 : l.length ≤ 6) :
    Calls Try.prog 87 #[v] w (EndOut w l true) := by
  have h0 := h
  obtain ⟨a, c, rfl, hlc, hcm, hnc, hrd⟩ := h
  have hsrc : 0 < (ints l).length → ∃ ad, a = some ad ∧ ∀ j v, (ints l)[j]? = some v → w.cell? (ad.add j) = some v := by
    intro hpos
    rcases hrd with rfl | ⟨b, off, rfl, hcell⟩
    · simp [ints] at hpos
    · refine ⟨_, rfl, fun j v hj => ?_⟩
      have hjl : j < l.length := by
        have := (List.getElem?_eq_some_iff.1 hj).1
        simpa [ints] using this
      rw [Addr.add_lit, hcell j hjl]
      simp [ints, List.getElem?_eq_getElem hjl] at hj
      simp [List.getD, List.getElem?_eq_getElem hjl, hj]
  obtain ⟨n, hn⟩ : ∃ n, n = l.length := ⟨_, rfl⟩
  have hspl := splice_end l h6 n hn
  have hlen : (ints l).length = Nat.min n 6 := by rw [ints_length, ← hn]; exact (Nat.min_eq_left (by omega)).symm
  rw [← hn] at hlc h6 h0 ⊢
  unfold maxLen at hcm
  have HN := Lib.hid hn; clear hn hrd
  have HS := Lib.hid hspl; clear hspl
  have HL := Lib.hid hlen; clear hlen h0
  have HN6 : Hid (l.length ≤ 6) := by rw [← HN.out]; exact h6
  have HL6 : Hid ((ints l).length ≤ 6) := by rw [ints_length, ← HN.out]; exact h6
  have HSRC := Lib.hid hsrc; clear hsrc
  have hall := run_parts_all
  go_enter Try.func87, Try.ntmps87
  go_wp2_with (first
    | ((with_reducible refine wpList_copy_splice rfl (.tmp 13) (.tmp 14) 22 22 rfl 3 Try.underlying22 infoInt1 _ _ _ _ _ _ rfl rfl (w.heap.size + 1) 0 [.int .i64 0, .int .i64 0, .int .i64 0, .int .i64 0, .int .i64 0, .int .i64 0, .int .i64 (n : Int)] 75 (heap_alloc2_new w _ _) (ints l) HL.out (fun hp => ⟨rfl, (HSRC.out hp).imp fun ad h => ⟨h.1, fun j v hj => cell_two _ _ (h.2 j v hj)⟩⟩) (by have := HL6.out; simp only [List.length_cons, List.length_nil]; omega) (ints_one _) (w.heap.size + 1) _ (below_two w _ _) (Nat.le_refl _) ?_); (intro w1 hcp hbel1; have hend1 : EndIn w1 (w.heap.size + 1) l := (by unfold EndIn endC; rw [← HS.out]; exact hcp.out); have hend0 : EndIn w1 w.heap.size [] := end0_of hbel1))
    | (with_reducible refine wp_loadEnd rfl (.tmp 4) rfl (w.heap.size + 1) l HN6.out rfl (by assumption) ?_)
    | ((with_reducible refine wp_storeEnd rfl (.tmp 2) (.tmp 16) rfl w.heap.size l [] HN6.out (Nat.zero_le _) rfl rfl (by assumption) ?_); intro w3 hs3 hg3))
  exact bodyPost_ret (results_rends _ _ w.heap.size l true HN6.out hs3 rfl rfl) rfl ⟨rfl, ends_below1 hbel1 hg3⟩

theorem end_src {w : World} {b : Nat} {l : List Int} (h : EndIn w b l) (hl : l.length ≤ 6) : ∀ j v, (ints l)[j]? = some v → w.cell? ((⟨b, 0, none⟩ : Addr).add j) = some v := by
  intro j v hj
  have hjl : j < l.length := by
    have := (List.getElem?_eq_some_iff.1 hj).1
    simpa [ints] using this
  rw [Addr.add_lit, Nat.zero_add, h.cell hl j (by omega), ← hj]
  simp [ints, List.getD, hjl]
set_option maxHeartbeats 1000000 in
theorem endsList_any (l : List Int) (w : World) (h : l.length ≤ 6) :
    Calls Try.prog 82 #[.agg (endC l)] w fun e w' => ∃ v', e = .returned v' ∧ Own w.heap.size w' v' l ∧ Below w.heap.size w w' := by
  have hlast := endC_last h
  obtain ⟨n, hn⟩ : ∃ n, n = l.length := ⟨_, rfl⟩
  have hlen : (ints l).length = Nat.min 6 n := by rw [ints_length, ← hn]; exact (Nat.min_eq_right (by omega)).symm
  have hspl := splice_full l n hn.symm
  rw [← hn] at hlast
  have h6 : n ≤ 6 := by omega
  have HN := Lib.hid hn; have H := Lib.hid h; have HL := Lib.hid hlen; have HS := Lib.hid hspl
  clear hn h hlen hspl
  have hall := run_parts_all
  have hend : EndIn (w.alloc (.cells (endC l) 75)) w.heap.size l := heap_alloc_new w _
  go_enter Try.func82, Try.ntmps82
  go_wp2_with (first
    | (at_make; refine wp_make _ rfl _ _ rfl n _ _ rfl rfl rfl rfl (by omega) ?_; intro w1 hown hbel hsz; have HE := Lib.hid (hend.below hbel); have HC := Lib.hid hown.cells; have HB := Lib.hid hbel; simp only [World.size_alloc] at HC; clear hown hbel)
    | ((with_reducible refine wpList_copy_splice rfl (.tmp 7) (.tmp 9) 22 22 rfl 3 Try.underlying22 infoInt1 _ _ _ _ _ _ rfl rfl (w.heap.size + 1) 0 (ints (List.replicate n 0)) 3 HC.out.1 (ints l) HL.out (fun hp => ⟨rfl, _, rfl, fun j v hj => end_src HE.out H.out j v hj⟩) (by rw [ints_length, ints_length, List.length_replicate, HN.out]; omega) (ints_one _) (w.heap.size + 1) w1 (Below.refl _ _) (Nat.le_refl _) ?_); (intro w2 hcp hbel2; rw [HS.out] at hcp; have HO := Lib.hid (Own.of_cells (B := w.heap.size + 1) hcp.out (Nat.le_refl _) (by have := H.out; unfold maxLen; omega)); rw [← HN.out] at HO)))
  go_ret
  refine ⟨_, rfl, HO.out.mono (by omega), ((Below.alloc1 w _).trans (HB.out.mono (by simp))).trans (hbel2.mono (by omega))⟩

end Go.Proofs.Ytllhdmpnjcemkac
