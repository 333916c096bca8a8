/- Faces: what is in them, by the program. -/
import Derived.Test.YteeoepbbocdchaaPoints
import Derived.Test.YteeoepbbocdchaaExMath
import Derived.Test.YteeoepbbocdchaaJoin
import Derived.Test.YteeoepbbocdchaaLists
import Derived.Deep.MidRow
import Derived.Deep.RegionHeld3
import Derived.Deep.RegionWith
import Derived.RegionTactic
import Derived.BigRegion
namespace Go.Proofs.Yteeoepbbocdchaa
open Go.RowKit
set_option linter.unusedSimpArgs false
set_option linter.unusedVariables false

set_option maxHeartbeats 4000000 in
set_option maxRecDepth 100000 in
theorem justUnder_any (l : List Int) (a o : Nat) (w : World) (hl : l.length ≤ 12) (ha : a < 12) (ho : o < 12) :
    Calls Try.prog 230 #[.agg (sysC l), .int .i64 (a : Int), .int .i64 (o : Int)] w (Tells w (justB l (a : Int) (o : Int))) := by
  have hB := fun w => begins_any l (a : Int) w hl (by omega) (by omega)
  have hD1 := fun w => depth_any l a w hl ha
  have hD2 := fun w => depth_any l o w hl ho
  have e1 := overN_le l (a : Int) a
  have e2 := overN_le l (o : Int) o
  have hbx : SysIn (w.alloc (.cells (sysC l) 59)) w.heap.size l := heap_alloc_new w _
  have hcell : ∀ W, SysIn W w.heap.size l → W.cell? ⟨w.heap.size, o, none⟩ = some (.int .i64 (l.getD o 0)) := fun W h => h.cell hl o ho
  have ej : justB l (a : Int) (o : Int) = (beginsB l (a : Int) && decide ((o : Int) < (a : Int)) && decide ((a : Int) < l.getD o 0) && decide (overN l (a : Int) a = overN l (o : Int) o + 1)) := by
    unfold justB; simp only [Int.toNat_natCast]
  rw [ej]
  clear ej
  obtain ⟨n, hn⟩ : ∃ n, n = l.length := ⟨_, rfl⟩
  have hs12 : sysV l 12 = .int .i64 (n : Int) := by rw [hn]; rfl
  have ht := sysC_lit hl
  rw [hs12] at ht
  generalize l.getD o 0 = m at hcell ⊢
  generalize overN l (a : Int) a = d1 at hD1 e1 ⊢
  generalize overN l (o : Int) o = d2 at hD2 e2 ⊢
  generalize beginsB l (a : Int) = B at hB ⊢
  have HL := Lib.hid hl; have HB := Lib.hid hB; have HD1 := Lib.hid hD1; have HD2 := Lib.hid hD2; have HX := Lib.hid hbx; have HC := Lib.hid hcell; have HS12 := Lib.hid hs12; have HT := Lib.hid ht
  clear hB hD1 hD2 hbx hcell hs12 ht hl hn
  cases B with
  | false =>
    simp only [Bool.false_and]
    go_enter Try.func230, Try.ntmps230
    go_wp2_with (first
      | (with_reducible refine wp_loadSys rfl (.tmp 3) rfl w.heap.size l HL.out rfl HX.out ?_)
      | (go_at_call 146; refine (HB.out _).mono ?_; rintro e w1 ⟨rfl, hb1⟩; have HB1 := Lib.hid (Below.step (Below.alloc1 _ _) hb1); clear hb1))
    go_quiet (fail)
    go_wp2
    go_ret
    exact ⟨rfl, below_drewN HB1.out _⟩
  | true =>
    simp only [Bool.true_and]
    by_cases q1 : (o : Int) < (a : Int)
    · by_cases q2 : (a : Int) < m
      · rw [decide_eq_true q1, decide_eq_true q2]
        simp only [Bool.true_and]
        have hq : decide (d1 = d2 + 1) = ((d1 : Int) == (d2 : Int) + 1) := by
          rw [Bool.eq_iff_iff]; simp; omega
        rw [hq]
        have hw : IntKind.i64.wrap ((d2 : Int) + 1) = (d2 : Int) + 1 := IntWalk.i64_in _ (by omega)
        clear hq
        go_enter Try.func230, Try.ntmps230
        go_wp2_with (first
          | (with_reducible refine wp_loadSys rfl (.tmp 3) rfl w.heap.size l HL.out rfl HX.out ?_)
          | (go_at_call 146; refine (HB.out _).mono ?_; rintro e w1 ⟨rfl, hb1⟩; have HX1 := Lib.hid (SysIn.below HX.out hb1); have HB1 := Lib.hid (Below.step (Below.alloc1 _ _) hb1); have c1 := HC.out _ HX1.out; clear hb1))
        go_region_held3 (fun w' => Hid (SysIn w' w.heap.size l ∧ Below w.heap.size w w') ∧ w'.cell? ⟨w.heap.size, 0, none⟩ = some (sysV l 0) ∧ w'.cell? ⟨w.heap.size, 1, none⟩ = some (sysV l 1) ∧ w'.cell? ⟨w.heap.size, 2, none⟩ = some (sysV l 2) ∧ w'.cell? ⟨w.heap.size, 3, none⟩ = some (sysV l 3) ∧ w'.cell? ⟨w.heap.size, 4, none⟩ = some (sysV l 4) ∧ w'.cell? ⟨w.heap.size, 5, none⟩ = some (sysV l 5) ∧ w'.cell? ⟨w.heap.size, 6, none⟩ = some (sysV l 6) ∧ w'.cell? ⟨w.heap.size, 7, none⟩ = some (sysV l 7) ∧ w'.cell? ⟨w.heap.size, 8, none⟩ = some (sysV l 8) ∧ w'.cell? ⟨w.heap.size, 9, none⟩ = some (sysV l 9) ∧ w'.cell? ⟨w.heap.size, 10, none⟩ = some (sysV l 10) ∧ w'.cell? ⟨w.heap.size, 11, none⟩ = some (sysV l 11) ∧ w'.cell? ⟨w.heap.size, 12, none⟩ = some (.int .i64 (n : Int)))
          (first | assumption | exact next_cells HS12.out HL.out (show SysIn (World.drew _) _ _ from HX1.out) (Below.drew HB1.out) | exact next_keep HS12.out HL.out (by assumption) (by assumption))
          (first
            | (go_at_call_of 228 (Value.int IntKind.i64 (a : Int)); (try rw [← HT.out]); ((with_reducible refine (HD1.out _).mono ?_); rintro e' w' ⟨rfl, hb'⟩))
            | (go_at_call_of 228 (Value.int IntKind.i64 (o : Int)); (try rw [← HT.out]); ((with_reducible refine (HD2.out _).mono ?_); rintro e' w' ⟨rfl, hb'⟩)))
        all_goals
          have hB : Below w.heap.size w w' := next_out (b := w.heap.size) (n := n) (l := l) (by assumption)
          go_wp2
          go_ret
          exact ⟨rfl, hB⟩
      · rw [decide_eq_false q2]
        simp only [Bool.and_false, Bool.false_and]
        go_enter Try.func230, Try.ntmps230
        go_wp2_with (first
          | (with_reducible refine wp_loadSys rfl (.tmp 3) rfl w.heap.size l HL.out rfl HX.out ?_)
          | (go_at_call 146; refine (HB.out _).mono ?_; rintro e w1 ⟨rfl, hb1⟩; have HX1 := Lib.hid (SysIn.below HX.out hb1); have HB1 := Lib.hid (Below.step (Below.alloc1 _ _) hb1); have c1 := HC.out _ HX1.out; clear hb1))
        rw [decide_eq_false (Int.not_lt.2 q2)]
        go_quiet (fail)
        go_wp2
        go_ret
        exact ⟨rfl, below_drewN HB1.out _⟩
    · rw [decide_eq_false q1]
      simp only [Bool.false_and]
      go_enter Try.func230, Try.ntmps230
      go_wp2_with (first
        | (with_reducible refine wp_loadSys rfl (.tmp 3) rfl w.heap.size l HL.out rfl HX.out ?_)
        | (go_at_call 146; refine (HB.out _).mono ?_; rintro e w1 ⟨rfl, hb1⟩; have HB1 := Lib.hid (Below.step (Below.alloc1 _ _) hb1); clear hb1))
      go_quiet (fail)
      go_wp2
      go_ret
      exact ⟨rfl, below_drewN HB1.out _⟩

/-- the cells of the face under an arch -/
def archC (l : List Int) (o : Int) : Array Value := #[sysV l 0, sysV l 1, sysV l 2, sysV l 3, sysV l 4, sysV l 5, sysV l 6, sysV l 7, sysV l 8, sysV l 9, sysV l 10, sysV l 11, sysV l 12, .int .i64 o]
/-- a system read out of the beginning of a block -/
theorem wp_loadSysM {ops : Array Oper} {rest : List Oper} {o : Oper} {a : Act} {w : World} {Q : Exit → Act → World → Prop} (x : Operand) (ho : o.op = .load 59 x)
    (g : Nat) (l : List Int) (hl : l.length ≤ 12) (hx : a.eval x = .pointer (some ⟨g, 0, none⟩)) (hg : ∀ i, i < 13 → w.cell? ⟨g, i, none⟩ = some (sysV l i)) (hw : Region.wanted o (yielded ops a.tmps) = true)
    (h : wpList Try.prog ops Q rest (a.put o.dst (.agg (sysC l))) w) : wpList Try.prog ops Q (o :: rest) a w := by
  refine wpList_wanted hw fun _ hK => wp_load_mid _ x ho g 0 hx #[sysV l 0, sysV l 1, sysV l 2, sysV l 3, sysV l 4, sysV l 5, sysV l 6, sysV l 7, sysV l 8, sysV l 9, sysV l 10, sysV l 11, sysV l 12].toList _ ?_ Try.underlying59 rfl (by rw [sys_info]; rfl) (hK _ _ (by rw [sysC_lit hl] at h; exact h))
  intro j v hj
  have hlt : j < 13 := (List.getElem?_eq_some_iff.1 hj).1
  rw [Nat.zero_add, hg j hlt]
  have e2 : j = 0 ∨ j = 1 ∨ j = 2 ∨ j = 3 ∨ j = 4 ∨ j = 5 ∨ j = 6 ∨ j = 7 ∨ j = 8 ∨ j = 9 ∨ j = 10 ∨ j = 11 ∨ j = 12 := by omega
  rcases e2 with rfl | rfl | rfl | rfl | rfl | rfl | rfl | rfl | rfl | rfl | rfl | rfl | rfl <;> simpa using hj

theorem archC_cells (w : World) (l : List Int) (o : Int) (i : Nat) (hi : i < 13) : (w.alloc (.cells (archC l o) 203)).cell? ⟨w.heap.size, i, none⟩ = some (sysV l i) := by
  rw [cell_of_row _ _ i _ _ _ (heap_alloc_new w _)]
  have e2 : i = 0 ∨ i = 1 ∨ i = 2 ∨ i = 3 ∨ i = 4 ∨ i = 5 ∨ i = 6 ∨ i = 7 ∨ i = 8 ∨ i = 9 ∨ i = 10 ∨ i = 11 ∨ i = 12 := by omega
  rcases e2 with rfl | rfl | rfl | rfl | rfl | rfl | rfl | rfl | rfl | rfl | rfl | rfl | rfl <;> rfl
theorem archC_over (w : World) (l : List Int) (o : Int) : (w.alloc (.cells (archC l o) 203)).cell? ⟨w.heap.size, 13, none⟩ = some (.int .i64 o) := by
  rw [cell_of_row _ _ 13 _ _ _ (heap_alloc_new w _)]; rfl
theorem outC_cells (w : World) (l : List Int) (hl : l.length ≤ 12) (i : Nat) (hi : i < 13) : (w.alloc (.cells (sysC l) 200)).cell? ⟨w.heap.size, i, none⟩ = some (sysV l i) := by
  rw [cell_of_row _ _ i _ _ _ (heap_alloc_new w _), sysC_lit hl]
  have e2 : i = 0 ∨ i = 1 ∨ i = 2 ∨ i = 3 ∨ i = 4 ∨ i = 5 ∨ i = 6 ∨ i = 7 ∨ i = 8 ∨ i = 9 ∨ i = 10 ∨ i = 11 ∨ i = 12 := by omega
  rcases e2 with rfl | rfl | rfl | rfl | rfl | rfl | rfl | rfl | rfl | rfl | rfl | rfl | rfl <;> rfl

set_option maxHeartbeats 1000000 in
theorem archHas_any (l : List Int) (a o : Nat) (w : World) (hl : l.length ≤ 12) (ha : a < 12) (ho : o < 12) :
    Calls Try.prog 229 #[.agg (archC l (o : Int)), .int .i64 (a : Int)] w (Tells w (archB l (o : Int) (a : Int))) := by
  have HJ := Lib.hid (fun w => justUnder_any l a o w hl ha ho)
  have HC := Lib.hid (archC_cells w l (o : Int))
  have hov := archC_over w l (o : Int)
  have HL := Lib.hid hl
  have hb0 := Below.alloc1 w (.cells (archC l (o : Int)) 203)
  unfold archB
  generalize justB l (a : Int) (o : Int) = J at *
  have HB0 := Lib.hid hb0
  clear hb0 hl
  by_cases q : (a : Int) = (o : Int)
  · rw [decide_eq_true q]
    have q' : ((a : Int) == (o : Int)) = true := by simpa using q
    clear q
    go_enter Try.func229, Try.ntmps229
    go_wp2_with fail
    go_ret
    exact ⟨by simp, HB0.out⟩
  · rw [decide_eq_false q, Bool.false_or]
    have q' : ((a : Int) == (o : Int)) = false := by simpa using q
    clear q
    go_enter Try.func229, Try.ntmps229
    go_wp2_with (first
      | (with_reducible refine wp_loadSysM (.tmp 10) rfl w.heap.size l HL.out rfl HC.out (by with_unfolding_all rfl) ?_)
      | (go_at_call 230; ((with_reducible refine (HJ.out _).mono ?_); rintro e w1 ⟨rfl, hb1⟩; have HB1 := Lib.hid (Below.step HB0.out hb1); clear hb1)))
    go_ret
    exact ⟨rfl, HB1.out⟩

set_option maxHeartbeats 1000000 in
theorem outHas_any (l : List Int) (a : Nat) (w : World) (hl : l.length ≤ 12) (ha : a < 12) :
    Calls Try.prog 226 #[.agg (sysC l), .int .i64 (a : Int)] w (Tells w (isOuterB l (a : Int))) := by
  have HJ := Lib.hid (fun w => isOuter_any l (a : Int) w hl (by omega) (by omega))
  have HC := Lib.hid (fun i hi => outC_cells w l hl i hi)
  have HL := Lib.hid hl
  have HB0 := Lib.hid (Below.alloc1 w (.cells (sysC l) 200))
  generalize isOuterB l (a : Int) = J at *
  clear hl
  go_enter Try.func226, Try.ntmps226
  go_wp2_with (first
    | (with_reducible refine wp_loadSysM (.tmp 5) rfl w.heap.size l HL.out rfl HC.out (by with_unfolding_all rfl) ?_)
    | (go_at_call 227; ((with_reducible refine (HJ.out _).mono ?_); rintro e w1 ⟨rfl, hb1⟩; have HB1 := Lib.hid (Below.step HB0.out hb1); clear hb1)))
  go_ret
  exact ⟨rfl, HB1.out⟩



end Go.Proofs.Yteeoepbbocdchaa
