/- frontier.mirrored. -/
import Derived.Test.YtnkkgbecdckigacStMir
import Derived.Test.YtnkkgbecdckigacRound
import Derived.Test.YtnkkgbecdckigacReadSt
import Derived.Test.YtnkkgbecdckigacEnds2
import Derived.Test.YtnkkgbecdckigacFrontEq
import Derived.RegionTactic
import Derived.Deep.RegionWith
import Derived.Deep.MidRow
namespace Go.Proofs.Ytnkkgbecdckigac
open Go.RowKit
set_option linter.unusedSimpArgs false
set_option linter.unusedVariables false

def setsAt (C : Array Value) (o : Nat) : List Value → Array Value
  | [] => C
  | v :: r => setsAt (C.setIfInBounds o v) (o + 1) r
theorem setsAt_get : ∀ (vs : List Value) (o : Nat) (C : Array Value) (i : Nat), o + vs.length ≤ C.size → (setsAt C o vs)[i]? = if o ≤ i ∧ i < o + vs.length then vs[i - o]? else C[i]?
  | [], o, C, i, _ => by
    have h : ¬ (o ≤ i ∧ i < o + ([] : List Value).length) := by simp
    rw [if_neg h]; rfl
  | v :: r, o, C, i, hs => by
    simp only [List.length_cons] at hs
    rw [setsAt, setsAt_get r (o + 1) _ i (by rw [Array.size_setIfInBounds]; omega)]
    simp only [List.length_cons]
    by_cases h1 : o = i
    · subst h1
      rw [if_neg (by omega), if_pos (by omega), Nat.sub_self, Array.getElem?_setIfInBounds_self_of_lt (by omega)]
      rfl
    · by_cases h2 : o + 1 ≤ i ∧ i < o + 1 + r.length
      · rw [if_pos h2, if_pos (by omega), show i - o = (i - (o + 1)) + 1 by omega, List.getElem?_cons_succ]
      · rw [if_neg h2, if_neg (by omega), Array.getElem?_setIfInBounds_ne h1]
theorem heap_setCells_at (g : Nat) (T : TypeId) : ∀ (vs : List Value) (o : Nat) (w : World) (C : Array Value), w.heap[g]? = some (.cells C T (0, 0)) → (w.setCells g o vs).heap[g]? = some (.cells (setsAt C o vs) T (0, 0))
  | [], _, _, _, h => h
  | v :: r, o, w, C, h => heap_setCells_at g T r (o + 1) _ _ (heap_setCell_same w g o _ _ v h)
theorem grown_setCells (g : Nat) : ∀ (vs : List Value) (o : Nat) (w : World), w.grownBy (w.setCells g o vs) (some g)
  | [], _, w => ⟨rfl, rfl, rfl, Nat.le_refl _, fun _ _ _ => rfl⟩
  | v :: r, o, w => grownS_trans (grownS_setCell (i := o) (v := v)) (grown_setCells g r (o + 1) _)
theorem frL_hi {u d : List Int} (c : Int) (hu : u.length ≤ 6) (i : Nat) (hi : 7 ≤ i) : (frL u d c)[i]? = (endL d ++ [.int .i64 c])[i - 7]? := by
  unfold frL
  rw [List.append_assoc, List.getElem?_append_right (by rw [endL_length hu]; exact hi), endL_length hu]
theorem fr_setUp {w : World} {g : Nat} {u d e : List Int} {c : Int} (hu : u.length ≤ 6) (hd : d.length ≤ 6) (he : e.length ≤ 6) (h : FrIn w g u d c) : FrIn (w.setCells g 0 (endC e).toList) g e d c := by
  unfold FrIn
  rw [heap_setCells_at g _ _ 0 w _ h]
  congr 2
  apply Array.ext_getElem?
  intro i
  have hl : (endC e).toList.length = 7 := by simp [endC, endL_length he]
  rw [setsAt_get _ _ _ _ (by rw [hl, frC_size c hu hd]; omega), hl]
  simp only [frC, List.getElem?_toArray]
  by_cases h7 : i < 7
  · rw [if_pos (by omega), frL_up c he i h7]; simp [endC]
  · rw [if_neg (by omega), frL_hi c hu i (by omega), frL_hi c he i (by omega)]
theorem fr_setDown {w : World} {g : Nat} {u d e : List Int} {c : Int} (hu : u.length ≤ 6) (hd : d.length ≤ 6) (he : e.length ≤ 6) (h : FrIn w g u d c) : FrIn (w.setCells g 7 (endC e).toList) g u e c := by
  unfold FrIn
  rw [heap_setCells_at g _ _ 7 w _ h]
  congr 2
  apply Array.ext_getElem?
  intro i
  have hl : (endC e).toList.length = 7 := by simp [endC, endL_length he]
  rw [setsAt_get _ _ _ _ (by rw [hl, frC_size c hu hd]; omega), hl]
  simp only [frC, List.getElem?_toArray]
  by_cases h7 : i < 7
  · rw [if_neg (by omega), frL_up c hu i h7, frL_up c hu i h7]
  · rw [frL_hi c hu i (by omega), frL_hi c hu i (by omega)]
    by_cases h14 : i < 14
    · rw [if_pos (by omega), List.getElem?_append_left (by rw [endL_length he]; omega)]; simp [endC]
    · rw [if_neg (by omega), List.getElem?_append_right (by rw [endL_length hd]; omega), List.getElem?_append_right (by rw [endL_length he]; omega), endL_length hd, endL_length he]
theorem there_row (w : World) (g o : Nat) (C : Array Value) (T : TypeId) (h : w.heap[g]? = some (.cells C T (0, 0))) (n : Nat) (ho : o + n ≤ C.size) : w.there g o n := by
  intro j hj
  rw [cell_of_row w g _ _ _ _ h]
  exact ⟨by simp; omega, frozen_of_row w g _ _ _ h⟩
theorem ends7 : (Try.prog.info? 64).map (·.size) = some 7 := by kernel_rfl
theorem wp_storeUp {ops : Array Oper} {rest : List Oper} {o : Oper} {a : Act} {w : World} {Q : Exit → Act → World → Prop} (hgd : o.guard = none) (x y : Operand) (ho : o.op = .store 64 x y)
    (g : Nat) (u d e : List Int) (c : Int) (hu : u.length ≤ 6) (hd : d.length ≤ 6) (he : e.length ≤ 6) (hx : a.eval x = .pointer (some ⟨g, 0, none⟩)) (hy : a.eval y = .agg (endC e)) (hg : FrIn w g u d c)
    (h : ∀ w', FrIn w' g e d c → w.grownBy w' (some g) → wpList Try.prog ops Q rest (a.put o.dst undef) w') : wpList Try.prog ops Q (o :: rest) a w :=
  wpList_store_mid hgd 64 x y ho g 0 (endC e) hx hy (there_row w g 0 _ _ hg _ (by rw [endC_size he, frC_size c hu hd]; omega)) (by rw [ends7, endC_size he]) (endC_one e) (h _ (fr_setUp hu hd he hg) (grown_setCells g _ 0 w))
theorem wp_storeDown {ops : Array Oper} {rest : List Oper} {o : Oper} {a : Act} {w : World} {Q : Exit → Act → World → Prop} (hgd : o.guard = none) (x y : Operand) (ho : o.op = .store 64 x y)
    (g : Nat) (u d e : List Int) (c : Int) (hu : u.length ≤ 6) (hd : d.length ≤ 6) (he : e.length ≤ 6) (hx : a.eval x = .pointer (some ⟨g, 7, none⟩)) (hy : a.eval y = .agg (endC e)) (hg : FrIn w g u d c)
    (h : ∀ w', FrIn w' g u e c → w.grownBy w' (some g) → wpList Try.prog ops Q rest (a.put o.dst undef) w') : wpList Try.prog ops Q (o :: rest) a w :=
  wpList_store_mid hgd 64 x y ho g 7 (endC e) hx hy (there_row w g 7 _ _ hg _ (by rw [endC_size he, frC_size c hu hd]; omega)) (by rw [ends7, endC_size he]) (endC_one e) (h _ (fr_setDown hu hd he hg) (grown_setCells g _ 7 w))

theorem results_frm (tmps : Array Value) (w : World) (g : Nat) (u d : List Int) (c : Int) (hu : u.length ≤ 6) (hd : d.length ≤ 6) (hg : FrIn w g u d c) (h2 : tmps.getD 2 undef = .pointer (some ⟨g, 0, none⟩)) :
    (results Try.f47 tmps).run Try.prog w = .ok (.agg (frC u d c)) w :=
  results_cell_row (by kernel_rfl) tmps w g _ (frC u d c) _ _ h2 hg Try.underlying66 rfl (by rw [fr_info, frC_size c hu hd])
theorem fr_kept {w w' : World} {g k : Nat} {u d : List Int} {c : Int} (h : FrIn w g u d c) (hg : w.grownBy w' (some k)) (hne : g ≠ k) : FrIn w' g u d c := (hg.block g h.lt (by simp; omega)).trans h

set_option maxHeartbeats 2000000 in
theorem mirrored_any (u d : List Int) (c : Int) (w : World) (hu : u.length ≤ 6) (hd : d.length ≤ 6) (wu : Wf u) (wd : Wf d) :
    Calls Try.prog 47 #[.agg (frC u d c)] w (FrRet w (renU d) (renD d u) c) := by
  have hrn := fun w => renumbered_any d u c w hd hu wd wu
  have l1 : (renU d).length ≤ 6 := by rw [renU_length]; exact hd
  have l2 : (renD d u).length ≤ 6 := by rw [renD_length]; exact hu
  have hz := fr_zero (w.alloc (.cells (frC u d c) 66))
  rw [World.size_alloc] at hz
  have hbox : FrIn ((w.alloc (.cells (frC u d c) 66)).alloc (.cells #[.int .i64 0, .int .i64 0, .int .i64 0, .int .i64 0, .int .i64 0, .int .i64 0, .int .i64 0, .int .i64 0, .int .i64 0, .int .i64 0, .int .i64 0, .int .i64 0, .int .i64 0, .int .i64 0, .int .i64 0] 66)) w.heap.size u d c := FrIn.below (heap_alloc_new w _) (Below.alloc1 _ _)
  have B2 := Below.step (Below.alloc1 w (.cells (frC u d c) 66)) (Below.alloc1 _ (.cells #[.int .i64 0, .int .i64 0, .int .i64 0, .int .i64 0, .int .i64 0, .int .i64 0, .int .i64 0, .int .i64 0, .int .i64 0, .int .i64 0, .int .i64 0, .int .i64 0, .int .i64 0, .int .i64 0, .int .i64 0] 66))
  have HRN := Lib.hid hrn; have L1 := Lib.hid l1; have L2 := Lib.hid l2; have HB := Lib.hid B2; have HZ := Lib.hid hz; have HBX := Lib.hid hbox; have HU := Lib.hid hu; have HD := Lib.hid hd
  generalize renU d = ru at HRN L1 ⊢
  generalize renD d u = rd at HRN L2 ⊢
  clear hrn hz B2 l1 l2 wu wd hu hd hbox
  go_enter Try.func47, Try.ntmps47
  go_wp2_with (first
    | (with_reducible refine wp_loadEnds rfl (.tmp 3) rfl w.heap.size 7 d HD.out rfl (HBX.out.down HU.out HD.out) ?_)
    | (with_reducible refine wp_loadEnds rfl (.tmp 5) rfl w.heap.size 0 u HU.out rfl (HBX.out.up HU.out) ?_)
    | ((with_reducible refine wp_storeUp rfl (.tmp 7) (.tmp 4) rfl w.heap.size u d d c HU.out HD.out HD.out rfl rfl HBX.out ?_); intro w1 hs1 hg1; have HS1 := Lib.hid hs1; have HZ1 := Lib.hid (fr_kept HZ.out hg1 (by omega)); have HB1 := Lib.hid (HB.out.grown hg1 HB.out.size (by intro k hk; simp at hk; omega)); clear hs1 hg1)
    | ((with_reducible refine wp_storeDown rfl (.tmp 8) (.tmp 6) rfl w.heap.size d d u c HD.out HD.out HU.out rfl rfl HS1.out ?_); intro w2 hs2 hg2; have HS2 := Lib.hid hs2; have HZ2 := Lib.hid (fr_kept HZ1.out hg2 (by omega)); have HB2 := Lib.hid (HB1.out.grown hg2 HB1.out.size (by intro k hk; simp at hk; omega)); clear hs2 hg2)
    | (with_reducible refine wp_loadFr rfl (.tmp 1) rfl w.heap.size d u c HD.out HU.out rfl HS2.out ?_)
    | (go_at_call 71; ((with_reducible refine (HRN.out _).mono ?_); rintro e w4 ⟨rfl, hb4⟩; have HZ4 : Hid (FrIn w4 (w.heap.size + 1) [] [] 0) := FrIn.below HZ2.out hb4; have HB4 := Lib.hid (Below.step HB2.out hb4); clear hb4))
    | ((with_reducible refine wp_storeFr rfl (.tmp 2) (.tmp 10) rfl (w.heap.size + 1) ru rd [] [] c 0 L1.out L2.out (Nat.zero_le _) (Nat.zero_le _) rfl rfl HZ4.out ?_); intro w5 hs5 hg5))
  exact bodyPost_ret (results_frm _ _ (w.heap.size + 1) ru rd c L1.out L2.out hs5 rfl) rfl ⟨rfl, HB4.out.grown hg5 HB4.out.size (by intro k hk; simp at hk; omega)⟩

end Go.Proofs.Ytnkkgbecdckigac
