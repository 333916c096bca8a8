/- Faces: what is in them, by the program. -/
/- All faces of a system, and their points, by the program. -/
/- The model's faces. FacesOf on both sides. -/
import Derived.Test.YtogjclmmjdhfeacPoints
import Derived.Test.YtogjclmmjdhfeacExMath
import Derived.Test.YtogjclmmjdhfeacJoin
import Derived.Test.YtogjclmmjdhfeacListsLaw
import Derived.Deep.MidRow
import Derived.Deep.RegionHeld3
import Derived.Deep.RegionWith
import Derived.RegionTactic
import Derived.BigRegion
import Derived.Test.YtogjclmmjdhfeacGood
namespace Go.Proofs.Ytogjclmmjdhfeac
open Go.RowKit
set_option linter.unusedSimpArgs false
set_option linter.unusedVariables false

set_option maxHeartbeats 4000000 in
set_option maxRecDepth 100000 in
theorem justUnder_any (l : List Int) (a o : Nat) (w : World) (hl : l.length ≤ 12) (ha : a < 12) (ho : o < 12) :
    Calls Try.prog 149 #[.agg (sysC l), .int .i64 (a : Int), .int .i64 (o : Int)] w (Tells w (justB l (a : Int) (o : Int))) := by
  have hB := fun w => begins_any l (a : Int) w hl (by omega) (by omega)
  have hD1 := fun w => depth_any l a w hl ha
  have hD2 := fun w => depth_any l o w hl ho
  have e1 := overN_le l (a : Int) a
  have e2 := overN_le l (o : Int) o
  have hbx : SysIn (w.alloc (.cells (sysC l) 56)) w.heap.size l := heap_alloc_new w _
  have hcell : ∀ W, SysIn W w.heap.size l → W.cell? ⟨w.heap.size, o, none⟩ = some (.int .i64 (l.getD o 0)) := fun W h => h.cell hl o ho
  have ej : justB l (a : Int) (o : Int) = (beginsB l (a : Int) && decide ((o : Int) < (a : Int)) && decide ((a : Int) < l.getD o 0) && decide (overN l (a : Int) a = overN l (o : Int) o + 1)) := by
    unfold justB; simp only [Int.toNat_natCast]
  rw [ej]
  clear ej
  obtain ⟨n, hn⟩ : ∃ n, n = l.length := ⟨_, rfl⟩
  have hs12 : sysV l 12 = .int .i64 (n : Int) := by rw [hn]; rfl
  have ht := sysC_lit hl
  rw [hs12] at ht
  generalize l.getD o 0 = m at hcell ⊢
  generalize overN l (a : Int) a = d1 at hD1 e1 ⊢
  generalize overN l (o : Int) o = d2 at hD2 e2 ⊢
  generalize beginsB l (a : Int) = B at hB ⊢
  have HL := Lib.hid hl; have HB := Lib.hid hB; have HD1 := Lib.hid hD1; have HD2 := Lib.hid hD2; have HX := Lib.hid hbx; have HC := Lib.hid hcell; have HS12 := Lib.hid hs12; have HT := Lib.hid ht
  clear hB hD1 hD2 hbx hcell hs12 ht hl hn
  cases B with
  | false =>
    simp only [Bool.false_and]
    go_enter Try.func149, Try.ntmps149
    go_wp2_with (first
      | (with_reducible refine wp_loadSys rfl (.tmp 3) rfl w.heap.size l HL.out rfl HX.out ?_)
      | (go_at_call 121; refine (HB.out _).mono ?_; rintro e w1 ⟨rfl, hb1⟩; have HB1 := Lib.hid (Below.step (Below.alloc1 _ _) hb1); clear hb1))
    go_quiet (fail)
    go_wp2
    go_ret
    exact ⟨rfl, below_drewN HB1.out _⟩
  | true =>
    simp only [Bool.true_and]
    by_cases q1 : (o : Int) < (a : Int)
    · by_cases q2 : (a : Int) < m
      · rw [decide_eq_true q1, decide_eq_true q2]
        simp only [Bool.true_and]
        have hq : decide (d1 = d2 + 1) = ((d1 : Int) == (d2 : Int) + 1) := by
          rw [Bool.eq_iff_iff]; simp; omega
        rw [hq]
        have hw : IntKind.i64.wrap ((d2 : Int) + 1) = (d2 : Int) + 1 := IntWalk.i64_in _ (by omega)
        clear hq
        go_enter Try.func149, Try.ntmps149
        go_wp2_with (first
          | (with_reducible refine wp_loadSys rfl (.tmp 3) rfl w.heap.size l HL.out rfl HX.out ?_)
          | (go_at_call 121; refine (HB.out _).mono ?_; rintro e w1 ⟨rfl, hb1⟩; have HX1 := Lib.hid (SysIn.below HX.out hb1); have HB1 := Lib.hid (Below.step (Below.alloc1 _ _) hb1); have c1 := HC.out _ HX1.out; clear hb1))
        go_region_held3 (fun w' => Hid (SysIn w' w.heap.size l ∧ Below w.heap.size w w') ∧ w'.cell? ⟨w.heap.size, 0, none⟩ = some (sysV l 0) ∧ w'.cell? ⟨w.heap.size, 1, none⟩ = some (sysV l 1) ∧ w'.cell? ⟨w.heap.size, 2, none⟩ = some (sysV l 2) ∧ w'.cell? ⟨w.heap.size, 3, none⟩ = some (sysV l 3) ∧ w'.cell? ⟨w.heap.size, 4, none⟩ = some (sysV l 4) ∧ w'.cell? ⟨w.heap.size, 5, none⟩ = some (sysV l 5) ∧ w'.cell? ⟨w.heap.size, 6, none⟩ = some (sysV l 6) ∧ w'.cell? ⟨w.heap.size, 7, none⟩ = some (sysV l 7) ∧ w'.cell? ⟨w.heap.size, 8, none⟩ = some (sysV l 8) ∧ w'.cell? ⟨w.heap.size, 9, none⟩ = some (sysV l 9) ∧ w'.cell? ⟨w.heap.size, 10, none⟩ = some (sysV l 10) ∧ w'.cell? ⟨w.heap.size, 11, none⟩ = some (sysV l 11) ∧ w'.cell? ⟨w.heap.size, 12, none⟩ = some (.int .i64 (n : Int)))
          (first | assumption | exact next_cells HS12.out HL.out (show SysIn (World.drew _) _ _ from HX1.out) (Below.drew HB1.out) | exact next_keep HS12.out HL.out (by assumption) (by assumption))
          (first
            | (go_at_call_of 147 (Value.int IntKind.i64 (a : Int)); (try rw [← HT.out]); ((with_reducible refine (HD1.out _).mono ?_); rintro e' w' ⟨rfl, hb'⟩))
            | (go_at_call_of 147 (Value.int IntKind.i64 (o : Int)); (try rw [← HT.out]); ((with_reducible refine (HD2.out _).mono ?_); rintro e' w' ⟨rfl, hb'⟩)))
        all_goals
          have hB : Below w.heap.size w w' := next_out (b := w.heap.size) (n := n) (l := l) (by assumption)
          go_wp2
          go_ret
          exact ⟨rfl, hB⟩
      · rw [decide_eq_false q2]
        simp only [Bool.and_false, Bool.false_and]
        go_enter Try.func149, Try.ntmps149
        go_wp2_with (first
          | (with_reducible refine wp_loadSys rfl (.tmp 3) rfl w.heap.size l HL.out rfl HX.out ?_)
          | (go_at_call 121; refine (HB.out _).mono ?_; rintro e w1 ⟨rfl, hb1⟩; have HX1 := Lib.hid (SysIn.below HX.out hb1); have HB1 := Lib.hid (Below.step (Below.alloc1 _ _) hb1); have c1 := HC.out _ HX1.out; clear hb1))
        rw [decide_eq_false (Int.not_lt.2 q2)]
        go_quiet (fail)
        go_wp2
        go_ret
        exact ⟨rfl, below_drewN HB1.out _⟩
    · rw [decide_eq_false q1]
      simp only [Bool.false_and]
      go_enter Try.func149, Try.ntmps149
      go_wp2_with (first
        | (with_reducible refine wp_loadSys rfl (.tmp 3) rfl w.heap.size l HL.out rfl HX.out ?_)
        | (go_at_call 121; refine (HB.out _).mono ?_; rintro e w1 ⟨rfl, hb1⟩; have HB1 := Lib.hid (Below.step (Below.alloc1 _ _) hb1); clear hb1))
      go_quiet (fail)
      go_wp2
      go_ret
      exact ⟨rfl, below_drewN HB1.out _⟩

/-- the cells of the face under an arch -/
def archC (l : List Int) (o : Int) : Array Value := #[sysV l 0, sysV l 1, sysV l 2, sysV l 3, sysV l 4, sysV l 5, sysV l 6, sysV l 7, sysV l 8, sysV l 9, sysV l 10, sysV l 11, sysV l 12, .int .i64 o]
/-- a system read out of the beginning of a block -/
theorem wp_loadSysM {ops : Array Oper} {rest : List Oper} {o : Oper} {a : Act} {w : World} {Q : Exit → Act → World → Prop} (x : Operand) (ho : o.op = .load 56 x)
    (g : Nat) (l : List Int) (hl : l.length ≤ 12) (hx : a.eval x = .pointer (some ⟨g, 0, none⟩)) (hg : ∀ i, i < 13 → w.cell? ⟨g, i, none⟩ = some (sysV l i)) (hw : Region.wanted o (yielded ops a.tmps) = true)
    (h : wpList Try.prog ops Q rest (a.put o.dst (.agg (sysC l))) w) : wpList Try.prog ops Q (o :: rest) a w := by
  refine wpList_wanted hw fun _ hK => wp_load_mid _ x ho g 0 hx #[sysV l 0, sysV l 1, sysV l 2, sysV l 3, sysV l 4, sysV l 5, sysV l 6, sysV l 7, sysV l 8, sysV l 9, sysV l 10, sysV l 11, sysV l 12].toList _ ?_ Try.underlying56 rfl (by rw [sys_info]; rfl) (hK _ _ (by rw [sysC_lit hl] at h; exact h))
  intro j v hj
  have hlt : j < 13 := (List.getElem?_eq_some_iff.1 hj).1
  rw [Nat.zero_add, hg j hlt]
  have e2 : j = 0 ∨ j = 1 ∨ j = 2 ∨ j = 3 ∨ j = 4 ∨ j = 5 ∨ j = 6 ∨ j = 7 ∨ j = 8 ∨ j = 9 ∨ j = 10 ∨ j = 11 ∨ j = 12 := by omega
  rcases e2 with rfl | rfl | rfl | rfl | rfl | rfl | rfl | rfl | rfl | rfl | rfl | rfl | rfl <;> simpa using hj

theorem archC_cells (w : World) (l : List Int) (o : Int) (i : Nat) (hi : i < 13) : (w.alloc (.cells (archC l o) 134)).cell? ⟨w.heap.size, i, none⟩ = some (sysV l i) := by
  rw [cell_of_row _ _ i _ _ _ (heap_alloc_new w _)]
  have e2 : i = 0 ∨ i = 1 ∨ i = 2 ∨ i = 3 ∨ i = 4 ∨ i = 5 ∨ i = 6 ∨ i = 7 ∨ i = 8 ∨ i = 9 ∨ i = 10 ∨ i = 11 ∨ i = 12 := by omega
  rcases e2 with rfl | rfl | rfl | rfl | rfl | rfl | rfl | rfl | rfl | rfl | rfl | rfl | rfl <;> rfl
theorem archC_over (w : World) (l : List Int) (o : Int) : (w.alloc (.cells (archC l o) 134)).cell? ⟨w.heap.size, 13, none⟩ = some (.int .i64 o) := by
  rw [cell_of_row _ _ 13 _ _ _ (heap_alloc_new w _)]; rfl
theorem outC_cells (w : World) (l : List Int) (hl : l.length ≤ 12) (i : Nat) (hi : i < 13) : (w.alloc (.cells (sysC l) 132)).cell? ⟨w.heap.size, i, none⟩ = some (sysV l i) := by
  rw [cell_of_row _ _ i _ _ _ (heap_alloc_new w _), sysC_lit hl]
  have e2 : i = 0 ∨ i = 1 ∨ i = 2 ∨ i = 3 ∨ i = 4 ∨ i = 5 ∨ i = 6 ∨ i = 7 ∨ i = 8 ∨ i = 9 ∨ i = 10 ∨ i = 11 ∨ i = 12 := by omega
  rcases e2 with rfl | rfl | rfl | rfl | rfl | rfl | rfl | rfl | rfl | rfl | rfl | rfl | rfl <;> rfl

set_option maxHeartbeats 1000000 in
theorem archHas_any (l : List Int) (a o : Nat) (w : World) (hl : l.length ≤ 12) (ha : a < 12) (ho : o < 12) :
    Calls Try.prog 148 #[.agg (archC l (o : Int)), .int .i64 (a : Int)] w (Tells w (archB l (o : Int) (a : Int))) := by
  have HJ := Lib.hid (fun w => justUnder_any l a o w hl ha ho)
  have HC := Lib.hid (archC_cells w l (o : Int))
  have hov := archC_over w l (o : Int)
  have HL := Lib.hid hl
  have hb0 := Below.alloc1 w (.cells (archC l (o : Int)) 134)
  unfold archB
  generalize justB l (a : Int) (o : Int) = J at *
  have HB0 := Lib.hid hb0
  clear hb0 hl
  by_cases q : (a : Int) = (o : Int)
  · rw [decide_eq_true q]
    have q' : ((a : Int) == (o : Int)) = true := by simpa using q
    clear q
    go_enter Try.func148, Try.ntmps148
    go_wp2_with fail
    go_ret
    exact ⟨by simp, HB0.out⟩
  · rw [decide_eq_false q, Bool.false_or]
    have q' : ((a : Int) == (o : Int)) = false := by simpa using q
    clear q
    go_enter Try.func148, Try.ntmps148
    go_wp2_with (first
      | (with_reducible refine wp_loadSysM (.tmp 10) rfl w.heap.size l HL.out rfl HC.out (by with_unfolding_all rfl) ?_)
      | (go_at_call 149; ((with_reducible refine (HJ.out _).mono ?_); rintro e w1 ⟨rfl, hb1⟩; have HB1 := Lib.hid (Below.step HB0.out hb1); clear hb1)))
    go_ret
    exact ⟨rfl, HB1.out⟩

set_option maxHeartbeats 1000000 in
theorem outHas_any (l : List Int) (a : Nat) (w : World) (hl : l.length ≤ 12) (ha : a < 12) :
    Calls Try.prog 145 #[.agg (sysC l), .int .i64 (a : Int)] w (Tells w (isOuterB l (a : Int))) := by
  have HJ := Lib.hid (fun w => isOuter_any l (a : Int) w hl (by omega) (by omega))
  have HC := Lib.hid (fun i hi => outC_cells w l hl i hi)
  have HL := Lib.hid hl
  have HB0 := Lib.hid (Below.alloc1 w (.cells (sysC l) 132))
  generalize isOuterB l (a : Int) = J at *
  clear hl
  go_enter Try.func145, Try.ntmps145
  go_wp2_with (first
    | (with_reducible refine wp_loadSysM (.tmp 5) rfl w.heap.size l HL.out rfl HC.out (by with_unfolding_all rfl) ?_)
    | (go_at_call 146; ((with_reducible refine (HJ.out _).mono ?_); rintro e w1 ⟨rfl, hb1⟩; have HB1 := Lib.hid (Below.step HB0.out hb1); clear hb1)))
  go_ret
  exact ⟨rfl, HB1.out⟩

set_option maxHeartbeats 4000000 in
set_option maxRecDepth 100000 in
theorem points_outF (c : Int → Bool) (x : Value) (l : List Int) (w : World) (hl : l.length ≤ 12)
    (hp : ∀ (i : Nat) (w : World), i < 12 → Calls Try.prog 145 #[x, .int .i64 (i : Int)] w (Tells w (c (i : Int)))) :
    Calls Try.prog 99 #[.agg (sysC l), .func (.method "loop.example/g01126/impl.has") #[.iface 132 x] #[]] w (Made w (whereL c l.length)) := by
  have hlast := sysC_last hl
  obtain ⟨n, hn⟩ : ∃ n, n = l.length := ⟨_, rfl⟩
  rw [← hn] at hlast hl ⊢
  have HP := Lib.hid hp; clear hp hn
  go_enter Try.func99, Try.ntmps99
  go_wp2
  go_loopw [5, 9] (fun o i wr => ∃ k : Nat, k ≤ n ∧ i = .int .i64 k ∧ Own w.heap.size wr o (whereL c k) ∧ Below w.heap.size w wr) (fun _ i _ => n - (intOf i).toNat)
  case atStart => exact ⟨0, by omega, rfl, Own.nil _ _, Below.alloc1 _ _⟩
  case round =>
    obtain ⟨k, hk, rfl, hown, hbel⟩ := hrel
    have hsz := hbel.size
    by_cases hlt : k < n
    · have hpk := fun w => HP.out k w (by omega)
      have hlen := whereL_len c k
      have HL := Lib.hid hlen; clear hlen
      cases hck : c (k : Int) with
      | true =>
        have hnx : whereL c (k + 1) = whereL c k ++ [(k : Int)] := by rw [whereL, hck]; rfl
        rw [hck] at hpk
        have HK := Lib.hid hpk; have HNX := Lib.hid hnx; clear hpk hnx hck
        go_wp2_with fail
        show Calls Try.prog 145 #[x, .int .i64 (k : Int)] _ _
        refine (HK.out _).mono ?_
        rintro e w1 ⟨rfl, hb1⟩
        have hown1 := Own.below hown hb1
        have hbel1 := Below.step hbel hb1
        have hsz1 := hbel1.size
        go_wp2_with (at_builtin; refine wp_append _ rfl _ _ rfl w.heap.size _ _ (whereL c k) [(k : Int)] rfl rfl (Own.below hown1 (Below.alloc1 _ _)) (Own.rd (Own.lit1 _ _ _ (Nat.le_refl _))) (by have := HL.out; simp; omega) (by simp; omega) ?_; intro v' w2 hown2 hgr hbel2; rw [← HNX.out] at hown2; have hbel3 := (hbel1.alloc hsz1 _).trans hbel2; clear hgr hbel2)
        go_roundw
        case rel => exact ⟨k + 1, by omega, by go_num, hown2, hbel3⟩
        case measure => simp [intOf]; omega
      | false =>
        have hnx : whereL c (k + 1) = whereL c k := by rw [whereL, hck]; simp
        rw [hck] at hpk
        have HK := Lib.hid hpk; have HNX := Lib.hid hnx; clear hpk hnx hck
        go_wp2_with fail
        show Calls Try.prog 145 #[x, .int .i64 (k : Int)] _ _
        refine (HK.out _).mono ?_
        rintro e w1 ⟨rfl, hb1⟩
        have hown1 := Own.below hown hb1
        have hbel1 := Below.step hbel hb1
        rw [← HNX.out] at hown1
        go_wp2
        go_roundw
        case rel => exact ⟨k + 1, by omega, by go_num, hown1, hbel1⟩
        case measure => simp [intOf]; omega
    · obtain rfl : k = n := by omega
      go_wp2
      go_ret
      exact ⟨_, rfl, hown, hbel⟩

set_option maxHeartbeats 4000000 in
set_option maxRecDepth 100000 in
theorem points_archF (c : Int → Bool) (x : Value) (l : List Int) (w : World) (hl : l.length ≤ 12)
    (hp : ∀ (i : Nat) (w : World), i < 12 → Calls Try.prog 148 #[x, .int .i64 (i : Int)] w (Tells w (c (i : Int)))) :
    Calls Try.prog 99 #[.agg (sysC l), .func (.method "loop.example/g01126/impl.has") #[.iface 134 x] #[]] w (Made w (whereL c l.length)) := by
  have hlast := sysC_last hl
  obtain ⟨n, hn⟩ : ∃ n, n = l.length := ⟨_, rfl⟩
  rw [← hn] at hlast hl ⊢
  have HP := Lib.hid hp; clear hp hn
  go_enter Try.func99, Try.ntmps99
  go_wp2
  go_loopw [5, 9] (fun o i wr => ∃ k : Nat, k ≤ n ∧ i = .int .i64 k ∧ Own w.heap.size wr o (whereL c k) ∧ Below w.heap.size w wr) (fun _ i _ => n - (intOf i).toNat)
  case atStart => exact ⟨0, by omega, rfl, Own.nil _ _, Below.alloc1 _ _⟩
  case round =>
    obtain ⟨k, hk, rfl, hown, hbel⟩ := hrel
    have hsz := hbel.size
    by_cases hlt : k < n
    · have hpk := fun w => HP.out k w (by omega)
      have hlen := whereL_len c k
      have HL := Lib.hid hlen; clear hlen
      cases hck : c (k : Int) with
      | true =>
        have hnx : whereL c (k + 1) = whereL c k ++ [(k : Int)] := by rw [whereL, hck]; rfl
        rw [hck] at hpk
        have HK := Lib.hid hpk; have HNX := Lib.hid hnx; clear hpk hnx hck
        go_wp2_with fail
        show Calls Try.prog 148 #[x, .int .i64 (k : Int)] _ _
        refine (HK.out _).mono ?_
        rintro e w1 ⟨rfl, hb1⟩
        have hown1 := Own.below hown hb1
        have hbel1 := Below.step hbel hb1
        have hsz1 := hbel1.size
        go_wp2_with (at_builtin; refine wp_append _ rfl _ _ rfl w.heap.size _ _ (whereL c k) [(k : Int)] rfl rfl (Own.below hown1 (Below.alloc1 _ _)) (Own.rd (Own.lit1 _ _ _ (Nat.le_refl _))) (by have := HL.out; simp; omega) (by simp; omega) ?_; intro v' w2 hown2 hgr hbel2; rw [← HNX.out] at hown2; have hbel3 := (hbel1.alloc hsz1 _).trans hbel2; clear hgr hbel2)
        go_roundw
        case rel => exact ⟨k + 1, by omega, by go_num, hown2, hbel3⟩
        case measure => simp [intOf]; omega
      | false =>
        have hnx : whereL c (k + 1) = whereL c k := by rw [whereL, hck]; simp
        rw [hck] at hpk
        have HK := Lib.hid hpk; have HNX := Lib.hid hnx; clear hpk hnx hck
        go_wp2_with fail
        show Calls Try.prog 148 #[x, .int .i64 (k : Int)] _ _
        refine (HK.out _).mono ?_
        rintro e w1 ⟨rfl, hb1⟩
        have hown1 := Own.below hown hb1
        have hbel1 := Below.step hbel hb1
        rw [← HNX.out] at hown1
        go_wp2
        go_roundw
        case rel => exact ⟨k + 1, by omega, by go_num, hown1, hbel1⟩
        case measure => simp [intOf]; omega
    · obtain rfl : k = n := by omega
      go_wp2
      go_ret
      exact ⟨_, rfl, hown, hbel⟩

end Go.Proofs.Ytogjclmmjdhfeac

namespace Go.Proofs.Ytogjclmmjdhfeac
open Go.RowKit
set_option linter.unusedSimpArgs false
set_option linter.unusedVariables false

theorem face_zero : (Try.prog.info? 107).map (fun i => (i.zero, i.size, i.bytes)) = some (some .nilIface, 1, 16) := by kernel_rfl
/-- a slice of faces that the call made itself -/
def OwnF (B : Nat) (w : World) (v : Value) (xs : List Value) : Prop := w.ownsRow B 107 1 v xs.length xs
theorem OwnF.below {B : Nat} {w w' : World} {v : Value} {xs : List Value} (h : OwnF B w v xs) (hb : Below w.heap.size w w') : OwnF B w' v xs := ownsRow_below h hb
theorem OwnF.form {B : Nat} {w : World} {v : Value} {xs : List Value} (h : OwnF B w v xs) : ∃ a c, v = .slice a xs.length c ∧ xs.length ≤ c ∧ c ≤ maxLen := by
  rcases h.2 with ⟨rfl, hn⟩ | ⟨g, cap, cur, hv, hB, hg, hnc, hcm, _⟩
  · exact ⟨none, 0, by rw [hn], by omega, by unfold maxLen; omega⟩
  · exact ⟨_, cap, hv, hnc, hcm⟩
theorem OwnF.at {B n c : Nat} {a : Option Addr} {w : World} {xs : List Value} (h : OwnF B w (.slice a n c) xs) (hl : 0 < xs.length) :
    ∃ g, a = some ⟨g, 0, none⟩ ∧ ∀ k, k < xs.length → w.cell? ⟨g, k, none⟩ = some (xs.getD k .nilIface) := by
  rcases h.2 with ⟨_, hn⟩ | ⟨g, cap, cur, hv, hB, hg, hnc, hcm, _⟩
  · omega
  · have hn : n = xs.length := by simp at hv; exact hv.2.1
    have ha : a = some ⟨g, 0, none⟩ := by simp at hv; exact hv.1
    have hc : c = cap := by simp at hv; exact hv.2.2
    subst ha; subst hc; subst hn
    refine ⟨g, rfl, fun k hk => ?_⟩
    rw [World.ownsRow.cellAt h k (by omega)]
    simp [List.getD, hk]
theorem ownF_apart {B B' : Nat} {w : World} {u v : Value} {l : List Int} {xs : List Value} (h : Own B w u l) (hv : OwnF B' w v xs) : ∀ k, u.ownBlock = some k → v.ownBlock ≠ some k := by
  intro k hk hk'
  rcases h.2 with ⟨rfl, _⟩ | ⟨g, cap, cur, rfl, _, hg, _⟩
  · cases hk
  rcases hv.2 with ⟨rfl, _⟩ | ⟨g', cap', cur', rfl, _, hg', _⟩
  · cases hk'
  simp [Value.ownBlock] at hk hk'
  subst hk; subst hk'
  rw [hg] at hg'
  simp at hg'
theorem ownF_apartLL {B B' n : Nat} {w : World} {u v : Value} {xs ys : List Value} (hu : w.ownsRow B 24 1 u n ys) (hv : OwnF B' w v xs) : ∀ k, u.ownBlock = some k → v.ownBlock ≠ some k := by
  intro k hk hk'
  rcases hu.2 with ⟨rfl, _⟩ | ⟨g, cap, cur, rfl, _, hg, _⟩
  · cases hk
  rcases hv.2 with ⟨rfl, _⟩ | ⟨g', cap', cur', rfl, _, hg', _⟩
  · cases hk'
  simp [Value.ownBlock] at hk hk'
  subst hk; subst hk'
  rw [hg] at hg'
  simp at hg'
theorem OwnF.grownLL {B B' n : Nat} {w w' : World} {u v : Value} {xs ys : List Value} (hv : OwnF B' w v xs) (hu : w.ownsRow B 24 1 u n ys) (hg : w.grownBy w' u.ownBlock) : OwnF B' w' v xs :=
  World.ownsRow.kept hv hg (by
    cases e : v.ownBlock with
    | none => exact .inl rfl
    | some k => exact .inr fun e' => ownF_apartLL hu hv k e'.symm e)
theorem Own.grownF {B B' : Nat} {w w' : World} {u v : Value} {l : List Int} {xs : List Value} (h : Own B w u l) (hv : OwnF B' w v xs) (hg : w.grownBy w' v.ownBlock) : Own B w' u l :=
  World.ownsRow.kept h hg (by
    cases e : u.ownBlock with
    | none => exact .inl rfl
    | some k => exact .inr fun e' => ownF_apart h hv k e e'.symm)
theorem wp_appendF {ops : Array Oper} {rest : List Oper} {o : Oper} {a : Act} {Q : Exit → Act → World → Prop} (w : World)
    (hg : o.guard = none) (s x : Operand) (hop : o.op = Op.call { callee := Callee.builtin Builtin.append, args := #[s, x], argTypes := #[104, 104] })
    (B g : Nat) (v p : Value) (xs : List Value) (hs : a.eval s = v) (hx : a.eval x = .slice (some ⟨g, 0, none⟩) 1 1) (hc : w.cell? ⟨g, 0, none⟩ = some p) (hone : p.oneCell' = true)
    (hown : OwnF B w v xs) (hlen : xs.length ≤ 1000000) (hB : B ≤ w.heap.size)
    (hK : ∀ v' w', OwnF B w' v' (xs ++ [p]) → w.grownBy w' v.ownBlock → Below B w w' → wpList Try.prog ops Q rest (a.put o.dst v') w') :
    wpList Try.prog ops Q (o :: rest) a w := by
  obtain ⟨i0, hi0, hz0, hz1, hz2⟩ := info_parts face_zero
  have hnews : ∀ j u, ([p] : List Value)[j]? = some u → w.cell? ((⟨g, 0, none⟩ : Addr).add j) = some u := by
    intro j y hj
    have : j = 0 := by
      have := (List.getElem?_eq_some_iff.1 hj).1
      simp at this; exact this
    subst this
    simp at hj; subst hj
    exact hc
  have hones : ∀ u ∈ ([p] : List Value), u.oneCell' = true := fun u hu => by simp at hu; rw [hu]; exact hone
  obtain ⟨v', w', hr, h1, h2, _⟩ := run_append_own (P := Try.prog) w B 104 o.type 107 i0 .nilIface 1 16 Try.underlying104 hi0 hz0 hz1 hz2 rfl (by decide) v xs.length xs hown ⟨g, 0, none⟩ 1 1 [p] rfl hnews hones (by unfold maxLen; omega) (by omega) hB
  refine wpList_plain hg fun _ hK' => ?_
  unfold Oper.wp execOp
  simp only [hop, resolve, invoke, builtin, Sem.run_bind, Sem.run_pure, Result.andThen_ok, List.map_toArray, List.map_cons, List.map_nil, hs, hx, hr]
  have h3 : OwnF B w' v' (xs ++ [p]) := by unfold OwnF; rw [List.length_append]; exact h1
  exact hK' _ _ (hK v' w' h3 h2 (below_grown h2 hB fun k hk => (World.ownsRow.lt hown k hk).1))

theorem wp_loadLitF {ops : Array Oper} {rest : List Oper} {o : Oper} {a : Act} {w : World} {Q : Exit → Act → World → Prop} (hgd : o.guard = none) (x : Operand) (ho : o.op = .load 56 x)
    (g : Nat) (l : List Int) (hl : l.length ≤ 12) (hx : a.eval x = .pointer (some ⟨g, 0, none⟩)) (hg : SysIn w g l)
    (h : wpList Try.prog ops Q rest (a.put o.dst (.agg #[sysV l 0, sysV l 1, sysV l 2, sysV l 3, sysV l 4, sysV l 5, sysV l 6, sysV l 7, sysV l 8, sysV l 9, sysV l 10, sysV l 11, sysV l 12])) w) : wpList Try.prog ops Q (o :: rest) a w :=
  wp_loadSys hgd x ho g l hl hx hg (by rw [sysC_lit hl]; exact h)

theorem OwnF.mono {B B' : Nat} {w : World} {v : Value} {xs : List Value} (h : OwnF B w v xs) (hb : B' ≤ B) : OwnF B' w v xs := by
  refine ⟨h.1, ?_⟩
  rcases h.2 with hn | ⟨g, cap, cur, hv, hB, rest⟩
  · exact .inl hn
  · exact .inr ⟨g, cap, cur, hv, by omega, rest⟩
theorem OwnF.lit1 (B : Nat) (w : World) (p : Value) (hB : B ≤ w.heap.size) : OwnF B (w.alloc (.cells #[p] 107)) (.slice (some ⟨w.heap.size, 0, none⟩) 1 1) [p] :=
  World.ownsRow_lit w #[p] 1 hB (by unfold maxLen; omega) rfl

/-- the faces as values -/
def outV (l : List Int) : Value := .iface 132 (.agg #[sysV l 0, sysV l 1, sysV l 2, sysV l 3, sysV l 4, sysV l 5, sysV l 6, sysV l 7, sysV l 8, sysV l 9, sysV l 10, sysV l 11, sysV l 12])
def arcV (l : List Int) (o : Int) : Value := .iface 134 (.agg (archC l o))
def faceV (l : List Int) : List Value := outV l :: (beginsL l).map (arcV l)
theorem faceV_len (l : List Int) : (faceV l).length = (faceW l).length := by simp [faceV, faceW]
theorem faceV_le {l : List Int} (hl : l.length ≤ 12) : (faceV l).length ≤ 13 := by
  have := whereL_len (beginsB l) l.length
  simp [faceV, beginsL]; omega
theorem begins_mem {l : List Int} {k : Nat} (hk : k < (beginsL l).length) : ∃ o : Nat, o < l.length ∧ (beginsL l).getD k 0 = (o : Int) := by
  have h : ∀ (n : Nat) (x : Int), x ∈ whereL (beginsB l) n → ∃ o : Nat, o < n ∧ x = (o : Int) := by
    intro n
    induction n with
    | zero => intro x hx; simp [whereL] at hx
    | succ n ih =>
      intro x hx
      rw [whereL, List.mem_append] at hx
      rcases hx with hx | hx
      · obtain ⟨o, h1, h2⟩ := ih x hx; exact ⟨o, by omega, h2⟩
      · split at hx
        · simp at hx; exact ⟨n, by omega, hx⟩
        · simp at hx
  exact h _ _ (by simp [beginsL, List.getD] at hk ⊢; simp [hk])

set_option maxHeartbeats 2000000 in
set_option maxRecDepth 100000 in
theorem faces_any (l : List Int) (w : World) (hl : l.length ≤ 12) :
    Calls Try.prog 98 #[.agg (sysC l)] w (fun e w' => ∃ v, e = .returned v ∧ OwnF w.heap.size w' v (faceV l) ∧ Below w.heap.size w w') := by
  have hp := fun w => points_begins (beginsB l) (.agg (sysC l)) l w hl (fun i w h0 h1 => begins_any l i w hl h0 h1)
  have hbx : SysIn (w.alloc (.cells (sysC l) 56)) w.heap.size l := heap_alloc_new w _
  have hbl : (beginsL l).length ≤ 12 := by have := whereL_len (beginsB l) l.length; unfold beginsL; omega
  have htk : ∀ k, k < (beginsL l).length → ((beginsL l).take (k + 1)).map (arcV l) = ((beginsL l).take k).map (arcV l) ++ [arcV l ((beginsL l).getD k 0)] := by
    intro k hk
    rw [List.take_succ_eq_append_getElem hk, List.map_append]
    simp [List.getD, hk]
  unfold faceV
  change ∀ w, Calls _ _ _ w (Made w (beginsL l)) at hp
  generalize beginsL l = bs at *
  have HP := Lib.hid hp; have HX := Lib.hid hbx; have HL := Lib.hid hl; have HTK := Lib.hid htk; have HBL := Lib.hid hbl
  clear hp hbx hl htk hbl
  go_enter Try.func98, Try.ntmps98
  have HX1 : Hid (SysIn ((w.alloc (.cells (sysC l) 56)).alloc (.cells #[.iface 132 (.agg #[sysV l 0, sysV l 1, sysV l 2, sysV l 3, sysV l 4, sysV l 5, sysV l 6, sysV l 7, sysV l 8, sysV l 9, sysV l 10, sysV l 11, sysV l 12])] 107)) w.heap.size l) := Lib.hid (HX.out.below (Below.alloc1 _ (.cells #[outV l] 107)))
  have HF1 : Hid (OwnF (w.heap.size + 1) ((w.alloc (.cells (sysC l) 56)).alloc (.cells #[outV l] 107)) (.slice (some ⟨w.heap.size + 1, 0, none⟩) 1 1) [outV l]) := by
    have := OwnF.lit1 (w.heap.size + 1) (w.alloc (.cells (sysC l) 56)) (outV l) (by simp)
    rw [World.size_alloc] at this
    exact this
  have HB1 := Lib.hid (Below.alloc1 (w.alloc (.cells (sysC l) 56)) (.cells #[outV l] 107))
  go_wp2_with (first
    | (with_reducible refine wp_loadLitF rfl (.tmp 1) rfl w.heap.size l HL.out rfl HX.out ?_)
    | (with_reducible refine wp_loadSys rfl (.tmp 1) rfl w.heap.size l HL.out rfl HX1.out ?_)
    | (go_at_call 99; ((with_reducible refine (HP.out _).mono ?_); rintro e w2 ⟨v1, rfl, ho1, hb1⟩; obtain ⟨a1, c1, rfl, hcl, hcm⟩ := ho1.form; unfold maxLen at hcm; have HF2 := Lib.hid (HF1.out.below hb1); have HB2 := Lib.hid (Below.step HB1.out hb1); have HO1 := Lib.hid (ho1.mono (B' := w.heap.size + 1) (by simp)); clear ho1 hb1)))
  go_loopw [3, 15] (fun o i wr => ∃ k : Nat, k ≤ bs.length ∧ i = .int .i64 (k : Int) ∧ OwnF (w.heap.size + 1) wr o (outV l :: (bs.take k).map (arcV l)) ∧ Own (w.heap.size + 1) wr (.slice a1 bs.length c1) bs ∧ Below (w.heap.size + 1) (w.alloc (.cells (sysC l) 56)) wr) (fun _ i _ => bs.length - (intOf i).toNat)
  case atStart => exact ⟨0, by omega, rfl, by simpa using HF2.out, HO1.out, by have := HB2.out; rwa [World.size_alloc] at this⟩
  case round =>
    obtain ⟨k, hk, rfl, hf, hbs, hbel⟩ := hrel
    clear HF2 HO1 HB2
    generalize wr = wc at *
    by_cases hlt : k < bs.length
    · obtain ⟨g, rfl, hck⟩ := hbs.get k hlt
      have hx2 : SysIn wc w.heap.size l := HX.out.below (by rw [World.size_alloc]; exact hbel)
      have htk2 : outV l :: (bs.take (k + 1)).map (arcV l) = (outV l :: (bs.take k).map (arcV l)) ++ [arcV l (bs.getD k 0)] := by rw [HTK.out k hlt]; rfl
      have HLT : Hid ((outV l :: (bs.take k).map (arcV l)).length ≤ 13) := by show _ ≤ _; have := HBL.out; simp; omega
      generalize bs.getD k 0 = y at *
      generalize outV l :: (bs.take k).map (arcV l) = O at *
      have HX2 := Lib.hid hx2; have HF := Lib.hid hf; have HBS := Lib.hid hbs; have HBE := Lib.hid hbel; have HT2 := Lib.hid htk2
      have HZ : Hid (w.heap.size + 1 ≤ wc.heap.size) := by have := hbel.size; rw [World.size_alloc] at this; exact this
      clear hx2 hf hbs hbel htk2
      go_wp2_with (first
        | (with_reducible refine wp_loadLitF rfl (.tmp 1) rfl w.heap.size l HL.out rfl HX2.out ?_)
        | (at_builtin; refine wp_appendF _ rfl (.tmp 19) (.tmp 24) rfl (w.heap.size + 1) wc.heap.size _ (arcV l y) O rfl rfl (cell_lit1 wc (arcV l y) _) rfl (HF.out.below (Below.alloc1 _ _)) (by have := HLT.out; omega) (by have := HZ.out; simp; omega) ?_; intro v' w3 hf3 hg3 hb3; have HF3 := Lib.hid hf3; have HB3 := Lib.hid ((HBE.out.trans ((Below.alloc1 wc (.cells #[arcV l y] 107)).mono HZ.out)).trans hb3); have HBS3 := Lib.hid ((HBS.out.below (Below.alloc1 wc (.cells #[arcV l y] 107))).grownF (HF.out.below (Below.alloc1 wc (.cells #[arcV l y] 107))) hg3); clear hf3 hg3 hb3))
      go_roundw
      case rel => exact ⟨k + 1, by omega, by go_num, by rw [HT2.out]; exact HF3.out, HBS3.out, HB3.out⟩
      case measure => simp [intOf]; omega
    · obtain rfl : k = bs.length := by omega
      rw [List.take_length] at hf
      obtain ⟨a5, c5, rfl, _⟩ := hf.form
      have HF := Lib.hid hf; have HBE := Lib.hid hbel
      clear hf hbel
      go_wp2_with fail
      go_ret
      exact ⟨_, rfl, HF.out.mono (Nat.le_succ _), (Below.alloc1 _ _).trans (HBE.out.mono (Nat.le_succ _))⟩
/-- the points of each face -/
theorem faceV_at (l : List Int) (hl : l.length ≤ 12) (k : Nat) (hk : k < (faceV l).length) : ∃ T v, (faceV l).getD k .nilIface = .iface T v ∧
    ∀ w, Calls Try.prog 99 #[.agg (sysC l), .func (.method "loop.example/g01126/impl.has") #[.iface T v] #[]] w (Made w ((faceW l).getD k [])) := by
  cases k with
  | zero =>
    refine ⟨132, .agg (sysC l), ?_, fun w => ?_⟩
    · rw [sysC_lit hl]; rfl
    · exact points_outF (isOuterB l) (.agg (sysC l)) l w hl (fun i w hi => outHas_any l i w hl hi)
  | succ k =>
    have hk' : k < (beginsL l).length := by simpa [faceV] using hk
    obtain ⟨o, ho, e⟩ := begins_mem hk'
    refine ⟨134, .agg (archC l (o : Int)), ?_, fun w => ?_⟩
    · rw [← e]
      simp only [faceV, List.getD_cons_succ]
      simp [List.getD, hk', arcV]
    · have e2 : (faceW l).getD (k + 1) [] = whereL (archB l (o : Int)) l.length := by
        rw [← e]
        simp only [faceW, List.getD_cons_succ]
        simp [List.getD, hk', underL']
      rw [e2]
      exact points_archF (archB l (o : Int)) (.agg (archC l (o : Int))) l w hl (fun i w hi => archHas_any l i o w hl hi (by omega))
theorem faceW_row (l : List Int) (k : Nat) : ((faceW l).getD k []).length ≤ l.length := by
  cases k with
  | zero => exact whereL_len _ _
  | succ k =>
    simp only [faceW, List.getD_cons_succ]
    rcases Nat.lt_or_ge k (beginsL l).length with h | h
    · simp [List.getD, h, underL']
      exact whereL_len _ _
    · simp [List.getD, h]

theorem step_appendLL {ops : Array Oper} {o : Oper} {a : Act} {K : Act → World → Prop} {Q : Exit → Act → World → Prop} {E : Prop} (w : World) (hgd : o.guard = none) (s x : Operand)
    (ho : o.op = .call { callee := .builtin .append, args := #[s, x], argTypes := #[34, 34] })
    (lo hi mid g : Nat) (v p : Value) (vs : List Value) (ls : List (List Int)) (l : List Int) (hs : a.eval s = v) (hx : a.eval x = .slice (some ⟨g, 0, none⟩) 1 1) (hc : w.cell? ⟨g, 0, none⟩ = some p)
    (hown : OwnLL lo hi w v vs ls) (hp : Own mid w p l) (hm : hi ≤ mid) (hlo : lo ≤ mid) (hlen : ls.length ≤ 1000000000) (hB : lo ≤ w.heap.size)
    (h : ∀ v' w', OwnLL lo w'.heap.size w' v' (vs ++ [p]) (ls ++ [l]) → w.grownBy w' v.ownBlock → Below lo w w' → (∀ k, v'.ownBlock = some k → v.ownBlock = some k ∨ w.heap.size ≤ k) → K (a.put o.dst v') w') :
    if Region.wanted o (yielded ops a.tmps) = true then Oper.wp Try.prog o a w K Q else E := by
  have hw : Region.wanted o (yielded ops a.tmps) = true := by simp [Region.wanted, hgd]
  rw [if_pos hw]
  obtain ⟨i0, hi0, hz0, hz1, hz2⟩ := info_parts Try.info24
  have hone : p.oneCell' = true := by
    rcases hp.2 with ⟨rfl, _⟩ | ⟨g, cap, cur, rfl, _⟩ <;> rfl
  have hnews : ∀ j u, ([p] : List Value)[j]? = some u → w.cell? ((⟨g, 0, none⟩ : Addr).add j) = some u := by
    intro j y hj
    have : j = 0 := by
      have := (List.getElem?_eq_some_iff.1 hj).1
      simp at this; exact this
    subst this
    simp at hj; subst hj
    exact hc
  have hones : ∀ u ∈ ([p] : List Value), u.oneCell' = true := fun u hu => by simp at hu; rw [hu]; exact hone
  obtain ⟨v', w', hr, h1, h2, _⟩ := run_append_own (P := Try.prog) w lo 34 o.type 24 i0 (.slice none 0 0) 1 24 Try.underlying34 hi0 hz0 hz1 hz2 rfl (by decide) v ls.length vs hown.row ⟨g, 0, none⟩ 1 1 [p] rfl hnews hones (by unfold maxLen; omega) (by omega) hB
  have h3 := append_where w lo 34 o.type 24 i0 (.slice none 0 0) 1 24 Try.underlying34 hi0 hz0 hz1 hz2 rfl (by decide) v ls.length vs hown.row ⟨g, 0, none⟩ 1 1 [p] rfl hnews hones (by unfold maxLen; omega) (by omega) hB v' w' hr
  unfold Oper.wp execOp
  simp only [ho, resolve, invoke, builtin, Sem.run_bind, Sem.run_pure, Result.andThen_ok, List.map_toArray, List.map_cons, List.map_nil, hs, hx, hr]
  exact h v' w' (hown.snoc hp hm hlo h1 h2) h2 (below_grown h2 hB fun k hk => (hown.inn k hk).1) h3

theorem step_nilFace {ops : Array Oper} {o : Oper} {a : Act} {K : Act → World → Prop} {Q : Exit → Act → World → Prop} {E : Prop} (w : World) (hgd : o.guard = none) (x : Operand) (ho : o.op = .nilCheck x) (T : TypeId) (v : Value) (hx : a.eval x = .iface T v)
    (h : K (a.put o.dst (.iface T v)) w) : if Region.wanted o (yielded ops a.tmps) = true then Oper.wp Try.prog o a w K Q else E := by
  have hw : Region.wanted o (yielded ops a.tmps) = true := by simp [Region.wanted, hgd]
  rw [if_pos hw]
  unfold Oper.wp execOp
  simp only [ho, hx]
  exact h

set_option maxHeartbeats 4000000 in
set_option maxRecDepth 100000 in
theorem faceLists_any (l : List Int) (w : World) (hl : l.length ≤ 12) :
    Calls Try.prog 65 #[.agg (sysC l)] w (MadeLL w (faceW l)) := by
  have hfa := fun w => faces_any l w hl
  have hbx : SysIn (w.alloc (.cells (sysC l) 56)) w.heap.size l := heap_alloc_new w _
  have hat := fun k hk => faceV_at l hl k hk
  have hle := faceV_le hl
  have hlen := faceV_len l
  have htk : ∀ k, k < (faceW l).length → (faceW l).take (k + 1) = (faceW l).take k ++ [(faceW l).getD k []] := fun k hk => by
    rw [List.take_succ_eq_append_getElem hk]
    simp [List.getD, hk]
  obtain ⟨n, hn⟩ : ∃ n, n = l.length := ⟨_, rfl⟩
  have hs12 : sysV l 12 = .int .i64 (n : Int) := by rw [hn]; rfl
  have ht := sysC_lit hl
  rw [hs12] at ht
  generalize faceV l = xs at *
  generalize faceW l = ls at *
  have HFA := Lib.hid hfa; have HX := Lib.hid hbx; have HAT := Lib.hid hat; have HL := Lib.hid hl; have HTK := Lib.hid htk; have HLEN := Lib.hid hlen; have HLE := Lib.hid hle; have HS12 := Lib.hid hs12; have HT := Lib.hid ht
  clear hfa hbx hat hl htk hlen hle hs12 ht hn
  go_enter Try.func65, Try.ntmps65
  go_wp2_with (first
    | (with_reducible refine wp_loadSys rfl (.tmp 1) rfl w.heap.size l HL.out rfl HX.out ?_)
    | (go_at_call 98; ((with_reducible refine (HFA.out _).mono ?_); rintro e w1 ⟨v1, rfl, ho1, hb1⟩; obtain ⟨a1, c1, rfl, hcl, hcm⟩ := ho1.form; unfold maxLen at hcm; have HF1 := Lib.hid (ho1.mono (B' := w.heap.size + 1) (by simp)); have HB1 : Hid (Below (w.heap.size + 1) (w.alloc (.cells (sysC l) 56)) w1) := (by rw [World.size_alloc] at hb1; exact hb1); clear ho1 hb1)))
  go_loopw [3, 9] (fun o i wr => ∃ (k : Nat) (vs : List Value), k ≤ xs.length ∧ i = .int .i64 (k : Int) ∧ OwnLL (w.heap.size + 1) wr.heap.size wr o vs (ls.take k) ∧ OwnF (w.heap.size + 1) wr (.slice a1 xs.length c1) xs ∧ Below (w.heap.size + 1) (w.alloc (.cells (sysC l) 56)) wr) (fun _ i _ => xs.length - (intOf i).toNat)
  case atStart => exact ⟨0, [], by omega, rfl, OwnLL.nil _ _ (by have := HB1.out.size; simpa using this), HF1.out, HB1.out⟩
  case round =>
    obtain ⟨k, vs, hk, rfl, hown, hf, hbel⟩ := hrel
    clear HF1 HB1
    generalize wr = wc at *
    by_cases hlt : k < xs.length
    · obtain ⟨T, v, hxe, hpt⟩ := HAT.out k hlt
      obtain ⟨g, rfl, hck0⟩ := hf.at (by omega)
      have hck := hck0 k hlt
      rw [hxe] at hck
      clear hck0
      have hx2 : SysIn wc w.heap.size l := HX.out.below (by rw [World.size_alloc]; exact hbel)
      have htk2 := HTK.out k (by rw [← HLEN.out]; exact hlt)
      have HLT : Hid ((ls.take k).length ≤ 13) := by show _ ≤ _; have := HLE.out; have := HLEN.out; rw [List.length_take]; omega
      have HZ : Hid (w.heap.size + 1 ≤ wc.heap.size) := by have := hbel.size; rw [World.size_alloc] at this; exact this
      generalize ls.getD k [] = t at *
      generalize ls.take k = S at *
      have HX2 := Lib.hid hx2; have HF := Lib.hid hf; have HOW := Lib.hid hown; have HBE := Lib.hid hbel; have HT2 := Lib.hid htk2; have HPT := Lib.hid hpt
      have HB0 : Hid (Below w.heap.size w wc) := (Below.alloc1 _ _).trans (hbel.mono (Nat.le_succ _))
      clear hx2 hf hown hbel htk2 hpt hxe
      go_wp2_with fail
      go_region_held3 (fun w' => Hid (SysIn w' w.heap.size l ∧ Below w.heap.size w w') ∧ w'.cell? ⟨w.heap.size, 0, none⟩ = some (sysV l 0) ∧ w'.cell? ⟨w.heap.size, 1, none⟩ = some (sysV l 1) ∧ w'.cell? ⟨w.heap.size, 2, none⟩ = some (sysV l 2) ∧ w'.cell? ⟨w.heap.size, 3, none⟩ = some (sysV l 3) ∧ w'.cell? ⟨w.heap.size, 4, none⟩ = some (sysV l 4) ∧ w'.cell? ⟨w.heap.size, 5, none⟩ = some (sysV l 5) ∧ w'.cell? ⟨w.heap.size, 6, none⟩ = some (sysV l 6) ∧ w'.cell? ⟨w.heap.size, 7, none⟩ = some (sysV l 7) ∧ w'.cell? ⟨w.heap.size, 8, none⟩ = some (sysV l 8) ∧ w'.cell? ⟨w.heap.size, 9, none⟩ = some (sysV l 9) ∧ w'.cell? ⟨w.heap.size, 10, none⟩ = some (sysV l 10) ∧ w'.cell? ⟨w.heap.size, 11, none⟩ = some (sysV l 11) ∧ w'.cell? ⟨w.heap.size, 12, none⟩ = some (.int .i64 (n : Int)))
        (first | assumption | exact next_cells HS12.out HL.out (show SysIn (World.drew _) _ _ from HX2.out) (Below.drew HB0.out) | exact next_keep HS12.out HL.out (by assumption) (by assumption) | exact next_keep HS12.out HL.out (by assumption) (Below.alloc1 _ _))
        (first
          | (refine step_nilFace _ (by rfl) (.tmp 15) (by rfl) T v (by rfl) ?_)
          | (go_at_call 99; (try rw [← HT.out]); ((with_reducible refine (HPT.out _).mono ?_); rintro e' w6 ⟨p, rfl, hp, hb6⟩; obtain ⟨p1, p2, p3, rfl⟩ := hp.form'; have HP := Lib.hid hp; have HB6 := Lib.hid (((Below.refl wc.heap.size wc).drew).trans hb6); have hS6 := next_cells HS12.out HL.out (HX2.out.below HB6.out) (Below.step HB0.out HB6.out); clear hp hb6))
          | ((refine step_appendLL _ (by rfl) (.tmp 13) (.tmp 19) (by rfl) (w.heap.size + 1) wc.heap.size wc.heap.size w6.heap.size _ (.slice p1 p2 p3) vs S t (by rfl) (by rfl) (cell_lit1 _ _ _) (OwnLL.below HOW.out (HB6.out.alloc HB6.out.size _)) (Own.below HP.out (Below.alloc1 _ _)) (Nat.le_refl _) HZ.out (by have := HLT.out; omega) (by have := HB6.out.size; have := HZ.out; simp at *; omega) ?_); intro v' w7 hown7 hgr7 hbel7 _; have HC7 := Lib.hid (HB6.out.alloc HB6.out.size (.cells #[.slice p1 p2 p3] 24)); have HO7 := Lib.hid hown7; have HF7 := Lib.hid ((HF.out.below HC7.out).grownLL (HOW.out.below HC7.out).row hgr7); have HB7 := Lib.hid ((HBE.out.trans (HC7.out.mono HZ.out)).trans hbel7); have hX7 : SysIn w7 w.heap.size l := (HX2.out.below HC7.out).under hbel7 (Nat.lt_succ_self _); have hB7 : Below w.heap.size w w7 := (Below.alloc1 _ _).trans (HB7.out.mono (Nat.le_succ _)); have hS7 := next_cells HS12.out HL.out hX7 hB7; clear hown7 hgr7 hbel7 hX7 hB7))
      all_goals
        go_wp2
        go_roundw
        case rel => exact ⟨k + 1, _, by omega, by go_num, by rw [HT2.out]; exact HO7.out, HF7.out, HB7.out⟩
        case measure => simp [intOf]; omega
    · obtain rfl : k = xs.length := by omega
      have e : ls.take xs.length = ls := by rw [HLEN.out, List.take_length]
      rw [e] at hown
      obtain ⟨a5, c5, rfl, _⟩ := hown.form
      have HOW := Lib.hid hown; have HBE := Lib.hid hbel
      clear hown hbel
      go_wp2_with fail
      go_ret
      exact ⟨_, vs, rfl, HOW.out.mono (Nat.le_succ _) (Nat.le_refl _) (Nat.le_refl _), (Below.alloc1 _ _).trans (HBE.out.mono (Nat.le_succ _))⟩
end Go.Proofs.Ytogjclmmjdhfeac

section
namespace Go.Proofs.Ytogjclmmjdhfeac
open Go.RowKit
set_option linter.unusedSimpArgs false
set_option linter.unusedVariables false

theorem face_facts {l : List Int} (h : goodB l = true) : chainL l (l.length + 1) 0 l.length [] = outerL l ∧ chainOk l (l.length + 1) 0 l.length = true ∧
    ∀ i, i < l.length → i < par l i → chainL l (l.length + 1) (i + 1) (par l i) [(i : Int)] = underL' l i ∧ chainOk l (l.length + 1) (i + 1) (par l i) = true := by
  have := face_check h
  unfold faceCheck at this
  simp only [Bool.and_eq_true, beq_iff_eq, List.all_eq_true, List.mem_range, Bool.or_eq_true, Bool.not_eq_true', decide_eq_false_iff_not] at this
  refine ⟨this.1.1, this.1.2, fun i hi hp => ?_⟩
  rcases this.2 i hi with h | h
  · exact absurd hp h
  · exact h
theorem chain_end {l : List Int} {f k e : Nat} {out R : List Int} (h : chainL l f k e out = R) (hk : ¬ k < e) : out = R := by
  cases f with
  | zero => exact h
  | succ f => rw [chainL, if_neg hk] at h; exact h
theorem chain_step {l : List Int} {f k e : Nat} {out R : List Int} (h : chainL l (f + 1) k e out = R) (hk : k < e) : chainL l f (par l k + 1) e (out ++ [(k : Int)]) = R := by
  rw [chainL, if_pos hk] at h; exact h
theorem chainOk_step {l : List Int} {f k e : Nat} (h : chainOk l (f + 1) k e = true) (hk : k < e) : k < par l k ∧ par l k < e ∧ chainOk l f (par l k + 1) e = true := by
  rw [chainOk, decide_eq_true hk] at h
  simpa [and_assoc] using h
/-- the faces among the first k points -/
def faceK (l : List Int) (k : Nat) : List (List Int) := outerL l :: (whereL (beginsB l) k).map (underL' l)
theorem faceK_all (l : List Int) : faceK l l.length = faceW l := rfl
theorem faceK_yes {l : List Int} {k : Nat} (h : beginsB l (k : Int) = true) : faceK l (k + 1) = faceK l k ++ [underL' l (k : Int)] := by
  unfold faceK
  rw [whereL, h, if_pos rfl, List.map_append]; rfl
theorem faceK_no {l : List Int} {k : Nat} (h : beginsB l (k : Int) = false) : faceK l (k + 1) = faceK l k := by
  unfold faceK
  rw [whereL, h]; simp
theorem faceK_len (l : List Int) (k : Nat) : (faceK l k).length ≤ k + 1 := by
  have := whereL_len (beginsB l) k
  simp [faceK]; omega

set_option maxHeartbeats 8000000 in
set_option maxRecDepth 100000 in
theorem exFaces_any (l : List Int) (w : World) (u : Value) (h : Rd w u l) (hg : goodB l = true) : Calls Try.prog 67 #[u] w (MadeLL w (faceW l)) := by
  have hl12 := good_len' hg
  have hr : ∀ k, k < l.length → 0 ≤ l.getD k 0 ∧ l.getD k 0 < l.length ∧ l.getD k 0 ≠ k := fun k hk => ⟨((good_facts hg).2.2.1 k hk).1, ((good_facts hg).2.2.1 k hk).2.1, ((good_facts hg).2.2.1 k hk).2.2.1⟩
  obtain ⟨hrun, hok, hin⟩ := face_facts hg
  have hfl : ∀ k, k ≤ l.length → (faceK l k).length ≤ 13 := fun k hk => by have := faceK_len l k; omega
  rw [← faceK_all]
  obtain ⟨a, c, rfl, hlc, hcm, hnc, hrd⟩ := h
  have hsrc : ∀ k, k < l.length → ∃ bb off, a = some ⟨bb, off, none⟩ ∧ ∀ wq, Below w.heap.size w wq → wq.cell? ⟨bb, off + k, none⟩ = some (.int .i64 ((par l k : Nat) : Int)) := by
    intro k hk
    rcases hrd with h0 | ⟨bb, off, rfl, hcell⟩
    · rw [h0] at hk; simp at hk
    refine ⟨bb, off, rfl, fun wq hq => ?_⟩
    have := hcell k hk
    rw [← par_int (hr k hk).1] at this
    exact (hq.cell (p := ⟨bb, off + k, none⟩) (World.block_lt_of_cell? w _ this)).trans this
  have hpb : ∀ k, k < l.length → par l k < l.length ∧ par l k ≠ k ∧ (beginsB l (k : Int) = decide (k < par l k)) := by
    intro k hk
    have h1 := hr k hk
    have e := par_int h1.1
    refine ⟨by omega, by omega, ?_⟩
    unfold beginsB
    rw [Int.toNat_natCast, ← e, Bool.eq_iff_iff]
    simp
  obtain ⟨n, hn⟩ : ∃ n, n = l.length := ⟨_, rfl⟩
  rw [← hn] at hlc hl12 hrun hok hin hsrc hpb hfl ⊢
  unfold maxLen at hcm
  have HN := Lib.hid hn; have HS := Lib.hid hsrc; have HX := Lib.hid hrun; have HO := Lib.hid hok; have HI := Lib.hid hin; have HP := Lib.hid hpb; have HFL := Lib.hid hfl
  clear hn hr hrd hg hnc hrun hok hin hsrc hpb hfl
  go_enter Try.func67, Try.ntmps67
  go_wp2
  go_loopw [3, 4] (fun o i wr => ∃ (k f : Nat) (out : List Int), k ≤ n ∧ n - k < f ∧ out.length ≤ k ∧ i = .int .i64 k ∧ Own w.heap.size wr o out ∧ Below w.heap.size w wr ∧ Hid (chainL l f k n out = outerL l) ∧ Hid (chainOk l f k n = true)) (fun _ i _ => n - (intOf i).toNat)
  case atStart => exact ⟨0, n + 1, [], by omega, by omega, by simp, rfl, Own.nil _ _, Below.refl _ _, HX.out, HO.out⟩
  case round =>
    obtain ⟨k, f, out, hk, hf, hlen, rfl, hown, hbel, HK, HOK⟩ := hrel
    have hsz := hbel.size
    clear HX HO
    by_cases hlt : k < n
    · obtain ⟨bb, off, rfl, hsr⟩ := HS.out k hlt
      obtain ⟨f, rfl⟩ : ∃ g, f = g + 1 := ⟨f - 1, by omega⟩
      have hst := chainOk_step HOK.out hlt
      have hru := chain_step HK.out hlt
      have hpk := HP.out k hlt
      obtain ⟨j, hj⟩ : ∃ j, j = par l k := ⟨_, rfl⟩
      rw [← hj] at hst hru hpk hsr
      have hkj := hst.1
      have hjn : j < n := hpk.1
      have HRU := Lib.hid hru; have HST := Lib.hid hst.2.2; have HSRC := Lib.hid hsr
      clear hst hru hsr hj hpk HK HOK
      go_wp2_with (at_builtin; refine wp_append _ rfl _ _ rfl w.heap.size _ _ out [(k : Int)] rfl rfl (Own.below hown (Below.alloc1 _ _)) (Own.rd (Own.lit1 _ _ _ (Nat.le_refl _))) (by simp; omega) (by simp; omega) ?_; intro v' w2 hown2 hgr hbel2; have hbel3 := (hbel.alloc hsz _).trans hbel2; have hsrc2 := HSRC.out _ hbel3; clear hgr hbel2)
      go_roundw
      case rel => exact ⟨j + 1, f, _, by omega, by omega, by simp; omega, by go_num, hown2, hbel3, HRU.out, HST.out⟩
      case measure => simp [intOf]; omega
    · obtain rfl : k = n := by omega
      have hfin := chain_end HK.out (by omega)
      rw [hfin] at hown
      clear hfin HK HOK hf hlen
      obtain ⟨p1, p2, p3, rfl⟩ := hown.form'
      generalize wr = w1 at *
      have HL0 := Lib.hid (OwnLL.lit1 w.heap.size w1 (.slice p1 p2 p3) (outerL l) hown hsz)
      have HB0 := Lib.hid (hbel.alloc hsz (.cells #[.slice p1 p2 p3] 24))
      clear hown hbel
      go_wp2
      go_loopw [5, 27] (fun o i wq => ∃ (q : Nat) (vs : List Value), q ≤ k ∧ i = .int .i64 (q : Int) ∧ OwnLL w.heap.size wq.heap.size wq o vs (faceK l q) ∧ Below w.heap.size w wq) (fun _ i _ => k - (intOf i).toNat)
      case atStart => exact ⟨0, _, by omega, rfl, HL0.out.mono (Nat.le_refl _) (by simp) (by simp), HB0.out⟩
      case round =>
        obtain ⟨q, vs, hq, rfl, hown, hbel⟩ := hrel
        generalize wr = wq at *
        clear HL0 HB0
        by_cases hlq : q < k
        · obtain ⟨bb, off, rfl, hsr⟩ := HS.out q hlq
          have hsr0 := hsr _ hbel
          have hpq := HP.out q hlq
          have hinq := HI.out q hlq
          have hfl := HFL.out q hq
          obtain ⟨j, hj⟩ : ∃ j, j = par l q := ⟨_, rfl⟩
          rw [← hj] at hsr0 hpq hinq
          have hjn : j < k := hpq.1
          have hjq : j ≠ q := hpq.2.1
          by_cases hb : q < j
          · have hb1 : beginsB l (q : Int) = true := by rw [hpq.2.2]; exact decide_eq_true hb
            have hfk := faceK_yes hb1
            obtain ⟨hc1, hc2⟩ := hinq hb
            generalize faceK l q = S at *
            generalize underL' l (q : Int) = U at *
            have HFK := Lib.hid hfk; have HC1 := Lib.hid hc1; have HC2 := Lib.hid hc2; have HOW := Lib.hid hown; have HBE := Lib.hid hbel; have HFL2 := Lib.hid hfl
            have hsz := hbel.size
            clear hfk hc1 hc2 hown hbel hpq hinq hsr hj hb1 hfl
            have hqj : ¬ ((j : Int) < (q : Int)) := by omega
            have hqd : decide ((j : Int) < (q : Int)) = false := decide_eq_false hqj
            go_wp2
            go_loopw [8, 9] (fun o i wz => ∃ (x f : Nat) (out : List Int), x ≤ j ∧ j - x < f ∧ out.length ≤ x ∧ i = .int .i64 (x : Int) ∧ Own wq.heap.size wz o out ∧ Below wq.heap.size wq wz ∧ Hid (chainL l f x j out = U) ∧ Hid (chainOk l f x j = true)) (fun _ i _ => j - (intOf i).toNat)
            case atStart => exact ⟨q + 1, k + 1, [(q : Int)], by omega, by omega, by simp, by go_num, Own.lit1 _ _ _ (Nat.le_refl _), Below.alloc1 _ _, HC1.out, HC2.out⟩
            case round =>
              obtain ⟨x, f, out, hx, hf, hlen, rfl, ho, hbz, HK, HOK⟩ := hrel
              generalize wr = wz at *
              clear HC1 HC2 hsr0
              have hsz2 := hbz.size
              by_cases hxj : x < j
              · obtain ⟨bb2, off2, he2, hsr2⟩ := HS.out x (by omega)
                simp only [Option.some.injEq, Addr.mk.injEq, and_true] at he2
                obtain ⟨rfl, rfl⟩ := he2
                obtain ⟨f, rfl⟩ : ∃ g, f = g + 1 := ⟨f - 1, by omega⟩
                have hst := chainOk_step HOK.out hxj
                have hru := chain_step HK.out hxj
                have hpk := HP.out x (by omega)
                obtain ⟨y, hy⟩ : ∃ y, y = par l x := ⟨_, rfl⟩
                rw [← hy] at hst hru hpk hsr2
                have hxy := hst.1
                have hyn : y < k := hpk.1
                have HRU := Lib.hid hru; have HST := Lib.hid hst.2.2; have HSRC := Lib.hid hsr2
                clear hru hsr2 hy hpk HK HOK
                have hyj : y < j := hst.2.1
                clear hst
                go_wp2_with (at_builtin; refine wp_append _ rfl _ _ rfl wq.heap.size _ _ out [(x : Int)] rfl rfl (Own.below ho (Below.alloc1 _ _)) (Own.rd (Own.lit1 _ _ _ (Nat.le_refl _))) (by simp; omega) (by simp; omega) ?_; intro v' w2 hown2 hgr hbel2; have hbel3 := (hbz.alloc hsz2 _).trans hbel2; have hsrc2 := HSRC.out _ (HBE.out.trans (hbel3.mono hsz)); clear hgr hbel2)
                go_roundw
                case rel => exact ⟨y + 1, f, _, by omega, by omega, by simp; omega, by go_num, hown2, hbel3, HRU.out, HST.out⟩
                case measure => simp [intOf]; omega
              · have hfin := chain_end HK.out (by omega)
                rw [hfin] at ho
                clear hfin HK HOK hf hlen
                obtain ⟨p1, p2, p3, rfl⟩ := ho.form'
                have HP2 := Lib.hid ho; have HBZ := Lib.hid hbz
                clear ho hbz
                go_wp2_with (at_builtin; refine wp_appendLL _ rfl (.tmp 51) (.tmp 53) rfl w.heap.size wq.heap.size wq.heap.size wz.heap.size _ (.slice p1 p2 p3) vs S U rfl rfl (cell_lit1 _ _ _) (OwnLL.below HOW.out (HBZ.out.alloc HBZ.out.size _)) (Own.below HP2.out (Below.alloc1 _ _)) (Nat.le_refl _) hsz (by have := HFL2.out; omega) (by have := HBZ.out.size; simp; omega) ?_; intro v' w7 hown7 hgr7 hbel7 _; have HO7 := Lib.hid hown7; have HB7 := Lib.hid ((HBE.out.trans ((HBZ.out.alloc HBZ.out.size _).mono hsz)).trans hbel7); clear hown7 hgr7 hbel7)
                go_roundw
                case rel => exact ⟨q + 1, _, by omega, by go_num, by rw [HFK.out]; exact HO7.out, HB7.out⟩
                case measure => simp [intOf]; omega
          · have hb1 : beginsB l (q : Int) = false := by rw [hpq.2.2]; exact decide_eq_false hb
            have hfk := faceK_no hb1
            have hjq2 : (j : Int) < (q : Int) := by omega
            have HFK := Lib.hid hfk; have HOW := Lib.hid hown; have HBE := Lib.hid hbel
            clear hfk hown hbel hpq hinq hsr hj hb1 hfl
            go_wp2
            go_roundw
            case rel => exact ⟨q + 1, vs, by omega, by go_num, by rw [HFK.out]; exact HOW.out, HBE.out⟩
            case measure => simp [intOf]; omega
        · obtain rfl : q = k := by omega
          obtain ⟨a5, c5, rfl, _⟩ := hown.form
          have HOW := Lib.hid hown; have HBE := Lib.hid hbel
          clear hown hbel
          go_wp2_with fail
          go_ret
          exact ⟨_, vs, rfl, HOW.out, HBE.out⟩

def res_FacesOf (l : List Int) : List (List Int) := if goodB l then faceW l else []
def ok_FacesOf (l : List Int) : Bool := goodB l
theorem faceW_small {l : List Int} (h : goodB l = true) : (faceW l).length ≤ 13 ∧ ∀ k, ((faceW l).getD k []).length ≤ 12 := by
  have hl := good_len' h
  refine ⟨by have := faceK_len l l.length; rw [faceK_all] at this; omega, fun k => ?_⟩
  rcases Nat.lt_or_ge k (faceW l).length with hk | hk
  · have hm : (faceW l).getD k [] ∈ faceW l := by simp [List.getD, hk]
    generalize (faceW l).getD k [] = f at hm
    unfold faceW at hm
    rcases List.mem_cons.1 hm with rfl | hm
    · have := whereL_len (isOuterB l) l.length; unfold outerL; omega
    · obtain ⟨o, _, rfl⟩ := List.mem_map.1 hm
      have := whereL_len (archB l o) l.length; unfold underL'; omega
  · simp [List.getD, List.getElem?_eq_none hk]
theorem len_FacesOf (l : List Int) : tot (res_FacesOf l) ≤ 1000000 ∧ ∀ i, i < (res_FacesOf l).length → ((res_FacesOf l).getD i []).length ≤ 1000000 := by
  unfold res_FacesOf
  split
  · next h =>
    have hf := faceW_small h
    have := tot_le (K := 12) (fun i (_ : i < (faceW l).length) => hf.2 i)
    exact ⟨by omega, fun i _ => Nat.le_trans (hf.2 i) (by omega)⟩
  · exact ⟨by simp [tot], fun i hi => by simp at hi⟩

set_option maxHeartbeats 1000000 in
theorem impl_FacesOf (l : List Int) (w : World) (u : Value) (h : Rd w u l) (m : l.length ≤ 1048576) : Calls Try.prog 28 #[u] w (GivesLL w (res_FacesOf l) (ok_FacesOf l)) := by
  unfold res_FacesOf ok_FacesOf
  cases hg : goodB l with
  | true =>
    simp only [if_true]
    have HL : Hid (l.length ≤ 12) := good_len' hg
    have HG := Lib.hid hg; clear hg
    have HF := Lib.hid (fun w => faceLists_any l w HL.out)
    generalize faceW l = R at *
    go_enter Try.func28, Try.ntmps28
    go_wp2_with fail
    refine (readSystem_yes u l _ h HG.out).mono ?_
    rintro e w1 ⟨rfl, hb⟩
    go_wp2_with (first
      | ((with_reducible refine wp_storeNew rfl (.tmp 4) (.tmp 9) rfl _ l HL.out rfl rfl ?_); intro w2 hs2 hb2)
      | (with_reducible refine wp_loadSys rfl (.tmp 4) rfl w1.heap.size l HL.out rfl hs2 ?_)
      | (go_at_call 65; ((with_reducible refine (HF.out _).mono ?_); rintro e w3 ⟨v, vs, rfl, hown, hb3⟩)))
    go_ret2
    have C := Below.step hb hb2
    exact ⟨_, vs, rfl, hown.mono C.size (Nat.le_refl _) (Nat.le_refl _), Below.step C hb3⟩
  | false =>
    have HG := Lib.hid hg; clear hg
    go_enter Try.func28, Try.ntmps28
    go_wp2_with fail
    refine (readSystem_no u l _ h HG.out).mono ?_
    rintro e w1 ⟨rfl, hb⟩
    go_wp2_with ((with_reducible refine wp_storeNew rfl (.tmp 4) (.tmp 9) rfl _ [] (Nat.zero_le _) rfl rfl ?_); intro w2 hs2 hb2)
    go_ret2
    have C := Below.step hb hb2
    exact ⟨_, [], rfl, OwnLL.nil _ _ C.size, C⟩

set_option maxHeartbeats 1000000 in
theorem spec_FacesOf (l : List Int) (w : World) (u : Value) (h : Rd w u l) (m : l.length ≤ 1048576) : Calls Try.prog 29 #[u] w (GivesLL w (res_FacesOf l) (ok_FacesOf l)) := by
  unfold res_FacesOf ok_FacesOf
  have hgood := fun w h => ahGood_any u l w h m
  cases hg : goodB l with
  | true =>
    simp only [if_true]
    rw [hg] at hgood
    have HF := Lib.hid (fun w h => exFaces_any l w u h hg)
    generalize faceW l = R at *
    have HA := Lib.hid hgood; have H0 := Lib.hid h; clear hg hgood
    go_enter Try.func29, Try.ntmps29
    go_wp2_with (first
      | (go_at_call 46; refine (HA.out _ H0.out).mono ?_; rintro e w1 ⟨rfl, hb⟩)
      | (go_at_call 67; refine (HF.out _ (H0.out.below hb)).mono ?_; rintro e w2 ⟨v, vs, rfl, hown, hb2⟩))
    go_ret2
    exact ⟨_, vs, rfl, hown.mono hb.size (Nat.le_refl _) (Nat.le_refl _), Below.step hb hb2⟩
  | false =>
    rw [hg] at hgood
    have HA := Lib.hid hgood; have H0 := Lib.hid h; clear hg hgood
    go_enter Try.func29, Try.ntmps29
    go_wp2_with (go_at_call 46; refine (HA.out _ H0.out).mono ?_; rintro e w1 ⟨rfl, hb⟩)
    go_ret2
    exact ⟨_, [], rfl, OwnLL.nil _ _ hb.size, hb⟩

end Go.Proofs.Ytogjclmmjdhfeac
end
