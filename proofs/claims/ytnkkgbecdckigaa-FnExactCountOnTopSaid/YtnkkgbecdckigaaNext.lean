/- withNext: the next stamp is put in. -/
import Derived.Test.YtnkkgbecdckigaaMoved
import Derived.Test.YtnkkgbecdckigaaAddMath
import Derived.Laws.CopyOwn
import Derived.Deep.RegionLaw
import Derived.StillTailTactics
namespace Go.Proofs.Ytnkkgbecdckigaa
open Go.RowKit
set_option linter.unusedSimpArgs false
set_option linter.unusedVariables false

theorem ints_drop_zeros (m k : Nat) (v : Value) (h : k ≤ m) : (ints (List.replicate m 0) ++ [v]).drop k = ints (List.replicate (m - k) 0) ++ [v] := by
  unfold ints
  rw [List.drop_append_of_le_length (by simpa using h), List.map_replicate, List.map_replicate, List.drop_replicate]

/-- the three steps of withNext on the cells -/
theorem next_cells3 (l : List Int) (p q : Nat) (hl : l.length = p + q) (h7 : p + q ≤ 7) :
    splice ((splice [.int .i64 0, .int .i64 0, .int .i64 0, .int .i64 0, .int .i64 0, .int .i64 0, .int .i64 0, .int .i64 0, .int .i64 ((p + q + 1 : Nat) : Int)] 0 (ints (l.take p))).set p (.int .i64 ((p + q : Nat) : Int))) (p + 1) (ints (l.drop p)) = stkL (insL l p) := by
  have hT : (ints (l.take p)).length = p := by rw [ints_length, List.length_take]; omega
  have hD : (ints (l.drop p)).length = q := by rw [ints_length, List.length_drop]; omega
  show splice ((splice (ints (List.replicate 8 0) ++ [.int .i64 ((p + q + 1 : Nat) : Int)]) 0 (ints (l.take p))).set p (.int .i64 ((p + q : Nat) : Int))) (p + 1) (ints (l.drop p)) = stkL (insL l p)
  have e1 : splice (ints (List.replicate 8 0) ++ [.int .i64 ((p + q + 1 : Nat) : Int)]) 0 (ints (l.take p)) = ints (l.take p) ++ (ints (List.replicate (8 - p) 0) ++ [.int .i64 ((p + q + 1 : Nat) : Int)]) := by
    unfold splice
    rw [hT, Nat.zero_add, ints_drop_zeros 8 p _ (by omega), List.take_zero, List.nil_append]
  rw [e1, List.set_append_right _ _ (by omega), hT, Nat.sub_self]
  have e2 : (ints (List.replicate (8 - p) 0) ++ [Value.int .i64 ((p + q + 1 : Nat) : Int)]).set 0 (.int .i64 ((p + q : Nat) : Int)) = .int .i64 ((p + q : Nat) : Int) :: (ints (List.replicate (7 - p) 0) ++ [Value.int .i64 ((p + q + 1 : Nat) : Int)]) := by
    rw [show 8 - p = (7 - p) + 1 by omega, List.replicate_succ]
    rfl
  rw [e2]
  have e3 : splice (ints (l.take p) ++ .int .i64 ((p + q : Nat) : Int) :: (ints (List.replicate (7 - p) 0) ++ [Value.int .i64 ((p + q + 1 : Nat) : Int)])) (p + 1) (ints (l.drop p)) = (ints (l.take p) ++ [.int .i64 ((p + q : Nat) : Int)]) ++ ints (l.drop p) ++ (ints (List.replicate (7 - (p + q)) 0) ++ [Value.int .i64 ((p + q + 1 : Nat) : Int)]) := by
    unfold splice
    have a1 : (ints (l.take p) ++ .int .i64 ((p + q : Nat) : Int) :: (ints (List.replicate (7 - p) 0) ++ [Value.int .i64 ((p + q + 1 : Nat) : Int)])) = (ints (l.take p) ++ [.int .i64 ((p + q : Nat) : Int)]) ++ (ints (List.replicate (7 - p) 0) ++ [Value.int .i64 ((p + q + 1 : Nat) : Int)]) := by simp
    have a2 : (ints (l.take p) ++ [Value.int .i64 ((p + q : Nat) : Int)]).length = p + 1 := by rw [List.length_append, hT]; rfl
    rw [a1, List.take_left' a2, hD, ← List.drop_drop, List.drop_left' a2, ints_drop_zeros _ q _ (by omega), show 7 - p - q = 7 - (p + q) by omega, List.append_assoc, List.append_assoc]
    simp only [List.append_assoc]
  rw [e3]
  unfold stkL
  rw [insL_length, hl, show 8 - (p + q + 1) = 7 - (p + q) by omega]
  unfold insL ints
  rw [hl]
  simp [List.append_assoc]


/-- where a cut of the array begins -/
def padr (b p : Nat) : Addr := if p = 8 then ⟨b, 0, none⟩ else ⟨b, p, none⟩
theorem padr_lt {b p : Nat} (h : p < 8) : padr b p = ⟨b, p, none⟩ := if_neg (by omega)
/-- 's.stamps[l:]' -/
theorem run_stamps_from (b p : Nat) (w : World) (hp : p ≤ 8) : (Instr.sliceAt 40 (.pointer (some ⟨b, 0, none⟩)) (some (.int .i64 (p : Int))) none none).run Try.prog w = .ok (.slice (some (padr b p)) (8 - p) (8 - p)) w := by
  have h := run_sliceAt_array_l (P := Try.prog) w 40 ⟨b, 0, none⟩ (by rw [arrayLen8, arrayElem8]; exact arrayUnder8) .i64 (p : Int) (by omega) (by rw [arrayLen8]; omega)
  rw [h, arrayLen8, arrayElem8]
  obtain ⟨i0, hi, hz0, hz1, hz2⟩ := info_parts Try.info3
  unfold padr
  by_cases e : p = 8
  · subst e; simp [sizeOf, typeInfo, hi, hz1, slicedAt, Result.andThen, Addr.add]
  · have e' : ¬ 8 = p := fun h => e h.symm
    simp [sizeOf, typeInfo, hi, hz1, slicedAt, Result.andThen, Addr.add, e, e']
    try omega
/-- 's.stamps[l:h]' -/
theorem run_stamps_cut (b p n : Nat) (w : World) (hp : p < 8) (hpn : p ≤ n) (hn : n ≤ 8) : (Instr.sliceAt 40 (.pointer (some ⟨b, 0, none⟩)) (some (.int .i64 (p : Int))) (some (.int .i64 (n : Int))) none).run Try.prog w = .ok (.slice (some ⟨b, p, none⟩) (n - p) (8 - p)) w := by
  have h := run_sliceAt_array_lh (P := Try.prog) w 40 ⟨b, 0, none⟩ (by rw [arrayLen8, arrayElem8]; exact arrayUnder8) .i64 .i64 (p : Int) (n : Int) (by omega) (by omega) (by rw [arrayLen8]; omega)
  rw [h, arrayLen8, arrayElem8]
  obtain ⟨i0, hi, hz0, hz1, hz2⟩ := info_parts Try.info3
  have e : ¬ 8 = p := by omega
  simp [sizeOf, typeInfo, hi, hz1, slicedAt, Result.andThen, Addr.add, e]
  try omega

theorem next_src (w w' : World) (l : List Int) (b k m : Nat) (h : StkIn w b l) (h8 : l.length ≤ 8) (hk : k + m ≤ l.length) (cs : List Value) (hcs : cs = ints ((l.drop k).take m)) : ∀ j v, cs[j]? = some v → w.cell? (Addr.add ⟨b, k, none⟩ j) = some v := by
  intro j v hj
  subst hcs
  have hjl : j < m := by
    have := (List.getElem?_eq_some_iff.1 hj).1
    rw [ints_length, List.length_take, List.length_drop] at this
    omega
  rw [Addr.add_mid, StkIn.cell h h8 (k + j) (by omega), ← hj]
  unfold ints
  rw [List.getElem?_map, List.getElem?_take, if_pos hjl, List.getElem?_drop]
  simp [List.getD, show k + j < l.length by omega]


theorem splice_has {α : Type} (L : List α) (off : Nat) (cs : List α) (k : Nat) (h : off + cs.length ≤ L.length) (hk : k < L.length) : ∃ x, (splice L off cs)[k]? = some x := by
  have := length_splice L off cs h
  exact ⟨_, List.getElem?_eq_getElem (by omega)⟩
theorem row_set {w : World} {g k : Nat} {L : List Value} {t : TypeId} (h : w.heap[g]? = some (.cells L.toArray t (0, 0))) (x : Value) : (w.setCell ⟨g, k, none⟩ x).heap[g]? = some (.cells (L.set k x).toArray t (0, 0)) := by
  have := heap_setCell_same w g k _ _ x h
  rw [this]
  simp
theorem results_next (tmps : Array Value) (w : World) (g : Nat) (l : List Int) (hl : l.length ≤ 8) (hg : StkIn w g l) (h4 : tmps.getD 4 undef = .pointer (some ⟨g, 0, none⟩)) :
    (results Try.f53 tmps).run Try.prog w = .ok (.agg (stkC l)) w := by
  have h4' : tmps[4]?.getD undef = .pointer (some ⟨g, 0, none⟩) := by simpa using h4
  have hr : Try.f53.results = #[.cell 4 42] := by kernel_rfl
  simp [results, hr, h4', asAddr, run_loadStk w g l hl hg]
set_option maxHeartbeats 2000000 in
set_option maxRecDepth 100000 in
theorem withNext_any (l : List Int) (p q : Nat) (w : World) (hl : l.length = p + q) (h7 : p + q ≤ 7) :
    Calls Try.prog 53 #[.agg (stkC l), .int .i64 (q : Int)] w (StkRet w (insL l p)) := by
  have h8 : l.length ≤ 8 := by omega
  have hil : (insL l p).length ≤ 8 := by rw [insL_length]; omega
  have hlast := stkC_last h8
  have hcells := next_cells3 l p q hl h7
  obtain ⟨n, hn⟩ : ∃ n : Nat, n = p + q := ⟨_, rfl⟩
  rw [← hn] at hcells h7 hl
  rw [show (((n + 1 : Nat)) : Int) = (n : Int) + 1 by omega] at hcells
  rw [hl] at hlast
  have hT1 : (ints (l.take p)).length = p := by rw [ints_length, List.length_take]; omega
  have hT2 : (ints (l.drop p)).length = n - p := by rw [ints_length, List.length_drop]; omega
  have hTL : (l.drop 0).take p = l.take p := rfl
  have hDL : (l.drop p).take (n - p) = l.drop p := List.take_of_length_le (by rw [List.length_drop]; omega)
  have hsub : (n : Int) - (q : Int) = (p : Int) := by omega
  have hpn : p ≤ n := by omega
  have HIL := Lib.hid hil; have HCELLS := Lib.hid hcells
  have HL := Lib.hid hl; have HN := Lib.hid hn; have H8 := Lib.hid h8; have HT1 := Lib.hid hT1; have HT2 := Lib.hid hT2
  have HQ1 := Lib.hid (fun wx (h : StkIn wx (w.heap.size) l) => next_src wx wx l (w.heap.size) 0 p h h8 (by omega) (ints (l.take p)) rfl)
  have HQ2 := Lib.hid (fun wx (h : StkIn wx (w.heap.size) l) => next_src wx wx l (w.heap.size) p (n - p) h h8 (by omega) (ints (l.drop p)) (by rw [hDL]))
  clear hn hl h8 hil hcells hT1 hT2 hTL hDL
  have hal := fun b w => run_stamps b p w (by omega)
  have hall := run_stamps_all
  have hfrom := fun b w => run_stamps_from b (p + 1) w (by omega)
  simp only [show (((p + 1 : Nat)) : Int) = (p : Int) + 1 by omega] at hfrom
  have hw1 : IntKind.i64.wrap ((p : Int) + 1) = (p : Int) + 1 := IntWalk.i64_in _ (by omega)
  have hcut := fun b w => run_stamps_cut b p n w (by omega) hpn (by omega)
  have HS := Lib.hid (show StkIn (((w.alloc (.cells (stkC l) 42)).alloc (.cells #[.int .i64 0, .int .i64 0, .int .i64 0, .int .i64 0, .int .i64 0, .int .i64 0, .int .i64 0, .int .i64 0, .int .i64 0] 42)).alloc (.cells #[.int .i64 0, .int .i64 0, .int .i64 0, .int .i64 0, .int .i64 0, .int .i64 0, .int .i64 0, .int .i64 0, .int .i64 ((n : Int) + 1)] 42)).drew (w.heap.size) l from StkIn.below (StkIn.below (StkIn.below (show StkIn (w.alloc (.cells (stkC l) 42)) (w.heap.size) l from heap_alloc_new w _) (Below.alloc1 _ _)) (Below.alloc1 _ _)) (Below.drew (Below.refl _ _)))
  have HZ := Lib.hid (show StkIn (((w.alloc (.cells (stkC l) 42)).alloc (.cells #[.int .i64 0, .int .i64 0, .int .i64 0, .int .i64 0, .int .i64 0, .int .i64 0, .int .i64 0, .int .i64 0, .int .i64 0] 42)).alloc (.cells #[.int .i64 0, .int .i64 0, .int .i64 0, .int .i64 0, .int .i64 0, .int .i64 0, .int .i64 0, .int .i64 0, .int .i64 ((n : Int) + 1)] 42)).drew (w.heap.size + 1) [] by
    have := StkIn.below (StkIn.below (StkIn.zero (w.alloc (.cells (stkC l) 42))) (Below.alloc1 _ (.cells #[.int .i64 0, .int .i64 0, .int .i64 0, .int .i64 0, .int .i64 0, .int .i64 0, .int .i64 0, .int .i64 0, .int .i64 ((n : Int) + 1)] 42))) (Below.drew (Below.refl _ _))
    rw [World.size_alloc] at this
    exact this)
  have HC := Lib.hid (show (((w.alloc (.cells (stkC l) 42)).alloc (.cells #[.int .i64 0, .int .i64 0, .int .i64 0, .int .i64 0, .int .i64 0, .int .i64 0, .int .i64 0, .int .i64 0, .int .i64 0] 42)).alloc (.cells #[.int .i64 0, .int .i64 0, .int .i64 0, .int .i64 0, .int .i64 0, .int .i64 0, .int .i64 0, .int .i64 0, .int .i64 ((n : Int) + 1)] 42)).drew.heap[w.heap.size + 1 + 1]? = some (.cells ([.int .i64 0, .int .i64 0, .int .i64 0, .int .i64 0, .int .i64 0, .int .i64 0, .int .i64 0, .int .i64 0, .int .i64 ((n : Int) + 1)]).toArray 42 (0, 0)) by
    have := heap_alloc_new ((w.alloc (.cells (stkC l) 42)).alloc (.cells #[.int .i64 0, .int .i64 0, .int .i64 0, .int .i64 0, .int .i64 0, .int .i64 0, .int .i64 0, .int .i64 0, .int .i64 0] 42)) (.cells #[.int .i64 0, .int .i64 0, .int .i64 0, .int .i64 0, .int .i64 0, .int .i64 0, .int .i64 0, .int .i64 0, .int .i64 ((n : Int) + 1)] 42)
    rw [World.size_alloc, World.size_alloc] at this
    exact this)
  have HB := Lib.hid (show Below (w.heap.size) w (((w.alloc (.cells (stkC l) 42)).alloc (.cells #[.int .i64 0, .int .i64 0, .int .i64 0, .int .i64 0, .int .i64 0, .int .i64 0, .int .i64 0, .int .i64 0, .int .i64 0] 42)).alloc (.cells #[.int .i64 0, .int .i64 0, .int .i64 0, .int .i64 0, .int .i64 0, .int .i64 0, .int .i64 0, .int .i64 0, .int .i64 ((n : Int) + 1)] 42)).drew from Below.drew (((Below.alloc1 w _).alloc (by simp) _).alloc (by simp; omega) _))
  go_enter Try.func53, Try.ntmps53
  go_wp2
  go_still_tail 5, (by kernel_rfl)
  change wpList _ _ _ _ _ (((w.alloc (.cells (stkC l) 42)).alloc (.cells #[.int .i64 0, .int .i64 0, .int .i64 0, .int .i64 0, .int .i64 0, .int .i64 0, .int .i64 0, .int .i64 0, .int .i64 0] 42)).alloc (.cells #[.int .i64 0, .int .i64 0, .int .i64 0, .int .i64 0, .int .i64 0, .int .i64 0, .int .i64 0, .int .i64 0, .int .i64 ((n : Int) + 1)] 42)).drew
  generalize (((w.alloc (.cells (stkC l) 42)).alloc (.cells #[.int .i64 0, .int .i64 0, .int .i64 0, .int .i64 0, .int .i64 0, .int .i64 0, .int .i64 0, .int .i64 0, .int .i64 0] 42)).alloc (.cells #[.int .i64 0, .int .i64 0, .int .i64 0, .int .i64 0, .int .i64 0, .int .i64 0, .int .i64 0, .int .i64 0, .int .i64 ((n : Int) + 1)] 42)).drew = W1 at *
  go_wp2_with ((with_reducible refine wpList_copy_splice rfl (.tmp 16) (.tmp 19) 22 22 rfl 3 Try.underlying22 infoInt1 _ _ _ _ _ _ rfl rfl (w.heap.size + 1 + 1) 0 ([.int .i64 0, .int .i64 0, .int .i64 0, .int .i64 0, .int .i64 0, .int .i64 0, .int .i64 0, .int .i64 0, .int .i64 ((n : Int) + 1)]) 42 HC.out (ints (l.take p)) (by rw [HT1.out]; exact (Nat.min_eq_left (by omega)).symm) (fun _ => ⟨rfl, _, rfl, HQ1.out _ HS.out⟩) (by rw [HT1.out]; simp only [List.length_cons, List.length_nil]; omega) (ints_one _) (w.heap.size + 1 + 1) W1 (Below.refl _ _) (Nat.le_refl _) ?_); (intro w2 hcp2 hb2; have HS2 := Lib.hid (HS.out.under hb2 (by omega)); have HZ2 := Lib.hid (HZ.out.under hb2 (by omega)); have HB2 := Lib.hid (HB.out.trans (hb2.mono (by omega))); have s2 := HS2.out.size H8.out; rw [HL.out] at s2; obtain ⟨x2, hx2⟩ := splice_has ([.int .i64 0, .int .i64 0, .int .i64 0, .int .i64 0, .int .i64 0, .int .i64 0, .int .i64 0, .int .i64 0, .int .i64 ((n : Int) + 1)]) 0 (ints (l.take p)) p (by rw [HT1.out]; simp only [List.length_cons, List.length_nil]; omega) (by simp only [List.length_cons, List.length_nil]; omega); have c2 : w2.cell? ⟨w.heap.size + 1 + 1, p, none⟩ = some x2 := (by rw [cell_of_row w2 _ p _ _ _ hcp2.out, List.getElem?_toArray]; exact hx2); have f2 := frozen_of_row w2 (w.heap.size + 1 + 1) p _ _ hcp2.out; clear hb2 hx2))
  have HC3 := Lib.hid (row_set (k := p) hcp2.out (.int .i64 (n : Int)))
  have HS3 := Lib.hid (show StkIn (w2.setCell ⟨w.heap.size + 1 + 1, p, none⟩ (.int .i64 (n : Int))) w.heap.size l from StkIn.other HS2.out (by omega))
  have HZ3 := Lib.hid (show StkIn (w2.setCell ⟨w.heap.size + 1 + 1, p, none⟩ (.int .i64 (n : Int))) (w.heap.size + 1) [] from StkIn.other HZ2.out (by omega))
  have HB3 := Lib.hid (show Below w.heap.size w (w2.setCell ⟨w.heap.size + 1 + 1, p, none⟩ (.int .i64 (n : Int))) from HB2.out.setCell (p := ⟨w.heap.size + 1 + 1, p, none⟩) (show w.heap.size ≤ w.heap.size + 1 + 1 by omega) _)
  clear s2 c2 f2 HS2 HZ2 HB2 HS HZ HC HB hcp2
  generalize (w2.setCell ⟨w.heap.size + 1 + 1, p, none⟩ (.int .i64 (n : Int))) = w3 at *
  replace HC3 : Hid (w3.drew.heap[w.heap.size + 1 + 1]? = _) := HC3
  replace HS3 : Hid (StkIn w3.drew w.heap.size l) := HS3
  replace HZ3 : Hid (StkIn w3.drew (w.heap.size + 1) []) := HZ3
  replace HB3 : Hid (Below w.heap.size w w3.drew) := Lib.hid (Below.drew HB3.out)
  refine wp_region_still_tail 9 (by kernel_rfl) (by kernel_rfl) ?_
  simp only [List.take_succ_cons, List.take_zero, List.drop_succ_cons, List.drop_zero]
  generalize hq : ({ heap := w3.heap, tape := w3.tape, drawn := w3.drawn + 1, os := w3.os, output := w3.output } : World) = w4
  replace hq : w3.drew = w4 := hq
  rw [hq] at HC3 HS3 HZ3 HB3
  clear hq
  have s3 := HS3.out.size H8.out
  rw [HL.out] at s3
  repeat still_step
  refine wpStill_nil ?_
  clear s3
  go_wp2_with (first
    | ((with_reducible refine wpList_copy_splice rfl (.tmp 29) (.tmp 34) 22 22 rfl 3 Try.underlying22 infoInt1 _ _ _ _ _ _ rfl rfl (w.heap.size + 1 + 1) (p + 1) _ 42 HC3.out (ints (l.drop p)) (by rw [HT2.out]; exact (Nat.min_eq_left (by omega)).symm) (fun hp => ⟨by rw [HT2.out] at hp; exact congrArg some (padr_lt (by omega)), _, rfl, HQ2.out _ HS3.out⟩) (by rw [HT2.out, List.length_set, length_splice _ _ _ (by rw [HT1.out]; simp only [List.length_cons, List.length_nil]; omega)]; simp only [List.length_cons, List.length_nil]; omega) (ints_one _) (w.heap.size + 1 + 1) w4 (Below.refl _ _) (Nat.le_refl _) ?_); (intro w5 hcp4 hb4; have HR4 : Hid (StkIn w5 (w.heap.size + 1 + 1) (insL l p)) := (by show StkIn _ _ _; unfold StkIn stkC; rw [← HCELLS.out]; exact hcp4.out); have HZ4 := Lib.hid (HZ3.out.under hb4 (by omega)); have HB4 := Lib.hid (HB3.out.trans (hb4.mono (by omega))); clear hb4))
    | (with_reducible refine wp_loadStk rfl (.tmp 6) rfl (w.heap.size + 1 + 1) (insL l p) HIL.out rfl HR4.out ?_)
    | ((with_reducible refine wp_storeStk rfl (.tmp 4) (.tmp 36) rfl (w.heap.size + 1) (insL l p) [] HIL.out (Nat.zero_le _) rfl rfl HZ4.out ?_); intro w6 hs5 hg5))
  exact bodyPost_ret (results_next _ _ (w.heap.size + 1) (insL l p) HIL.out hs5 rfl) rfl ⟨rfl, HB4.out.grown hg5 HB4.out.size (by intro k hk; simp at hk; omega)⟩
end Go.Proofs.Ytnkkgbecdckigaa
