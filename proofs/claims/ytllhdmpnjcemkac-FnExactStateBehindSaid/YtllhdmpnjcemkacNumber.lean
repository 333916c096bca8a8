/- The numbers of parts as a map's datum. -/
/- The program's number: parts get their numbers. -/
import Derived.Test.YtllhdmpnjcemkacStateMath
import Derived.Test.YtllhdmpnjcemkacBase
import Derived.Maps.OwnSet
import Derived.Maps.OwnOps
import Derived.Laws.CopyOwn
import Derived.Test.YtllhdmpnjcemkacEnds2
import Derived.Deep.QuietTactic
import Derived.BigQuiet
namespace Go.Proofs.Ytllhdmpnjcemkac
open Go.RowKit Go.Maps
set_option linter.unusedSimpArgs false
set_option linter.unusedVariables false

theorem snoc_ind {P : List Int → Prop} (h0 : P []) (h1 : ∀ l x, P l → P (l ++ [x])) (l : List Int) : P l := by
  have h : ∀ l : List Int, P l.reverse := by
    intro l
    induction l with
    | nil => exact h0
    | cons x l ih => rw [List.reverse_cons]; exact h1 _ x ih
  have := h l.reverse
  rwa [List.reverse_reverse] at this
def mapD (acc : List Int) : DataW Unit := (List.range acc.length).foldl (fun D i => D.put (.int .i64 (acc.getD i 0)) (.lit (.int .i64 (i : Int)))) (.map [])
theorem foldl_same {α β : Type} (f g : β → α → β) : ∀ (l : List α) (z : β), (∀ x ∈ l, ∀ y, f y x = g y x) → l.foldl f z = l.foldl g z
  | [], _, _ => rfl
  | x :: l, z, h => by
    rw [List.foldl_cons, List.foldl_cons, h x (by simp)]
    exact foldl_same f g l _ fun y hy => h y (by simp [hy])
theorem mapD_nil : mapD [] = .map [] := rfl
theorem mapD_snoc (acc : List Int) (x : Int) : mapD (acc ++ [x]) = (mapD acc).put (.int .i64 x) (.lit (.int .i64 (acc.length : Int))) := by
  unfold mapD
  rw [List.length_append, List.length_singleton, List.range_succ, List.foldl_append, List.foldl_cons, List.foldl_nil]
  have e : (acc ++ [x]).getD acc.length 0 = x := by simp [List.getD]
  rw [e]
  congr 1
  refine foldl_same _ _ _ _ fun i hi y => ?_
  rw [List.mem_range] at hi
  rw [show (acc ++ [x]).getD i 0 = acc.getD i 0 by simp [List.getD, List.getElem?_append_left hi]]
theorem key_i (x : Int) : WideAt.IsKeyLit (.int .i64 x) := trivial
theorem lit_ne {x y : Int} (h : x ≠ y) : (Lit.int .i64 x) ≠ .int .i64 y := fun e => h (by injection e)
theorem mapD_tidy : ∀ (acc : List Int), Tidy (mapD acc) := by
  intro acc
  induction acc using snoc_ind with
  | h0 => exact tidy_empty
  | h1 acc x ih => rw [mapD_snoc]; exact ih.put (key_i x) _
theorem mapD_has (x : Int) (acc : List Int) : Maps.has (mapD acc) (.int .i64 x) = decide (x ∈ acc) := by
  induction acc using snoc_ind with
  | h0 => rfl
  | h1 acc y ih =>
    rw [mapD_snoc]
    by_cases e : x = y
    · subst e
      rw [has_put_same (mapD_tidy acc).isMap (key_i x)]
      simp
    · rw [has_put_other (lit_ne e), ih]
      simp [e]
theorem mapD_at (x : Int) (acc : List Int) (hn : acc.Nodup) (hx : x ∈ acc) (z : DataW Unit) : (mapD acc).atKey (.int .i64 x) z = .lit (.int .i64 (acc.idxOf x : Int)) := by
  induction acc using snoc_ind with
  | h0 => simp at hx
  | h1 acc y ih =>
    rw [mapD_snoc]
    rw [List.nodup_append] at hn
    by_cases e : x = y
    · subst e
      have hx2 : x ∉ acc := fun h => hn.2.2 x h x (by simp) rfl
      rw [atKey_put_same (mapD_tidy acc).isMap (key_i x), List.idxOf_append, if_neg hx2]
      simp
    · have hx2 : x ∈ acc := by simpa [e] using hx
      rw [atKey_put_other (lit_ne e), ih hn.1 hx2, List.idxOf_append, if_pos hx2]
theorem mapD_size (acc : List Int) (hn : acc.Nodup) : Maps.size (mapD acc) = acc.length := by
  induction acc using snoc_ind with
  | h0 => rfl
  | h1 acc y ih =>
    rw [List.nodup_append] at hn
    have hy : y ∉ acc := fun h => hn.2.2 y h y (by simp) rfl
    rw [mapD_snoc, size_put (mapD_tidy acc), mapD_has, decide_eq_false hy, ih hn.1]
    simp

/-- one number more -/
theorem seenL_take {acc l : List Int} {k : Nat} (hk : k < l.length) : seenL acc (l.take (k + 1)) = if l.getD k 0 ∈ seenL acc (l.take k) then seenL acc (l.take k) else seenL acc (l.take k) ++ [l.getD k 0] := by
  rw [List.take_succ_eq_append_getElem hk, seenL_append, show l.getD k 0 = l[k] by simp [List.getD, hk]]
  generalize seenL acc (l.take k) = S
  rw [seenL]
  split <;> rfl
theorem numL_at : ∀ (l acc : List Int) (k : Nat), k < l.length → (numL acc l).getD k 0 = if l.getD k 0 ∈ seenL acc (l.take k) then ((seenL acc (l.take k)).idxOf (l.getD k 0) : Int) else ((seenL acc (l.take k)).length : Int)
  | [], _, k, h => by simp at h
  | x :: l, acc, 0, _ => by
    unfold numL
    simp only [List.take_zero, seenL, List.getD_cons_zero]
    split <;> rfl
  | x :: l, acc, k + 1, h => by
    unfold numL
    simp only [List.take_succ_cons, List.getD_cons_succ, seenL]
    split
    · rw [List.getD_cons_succ]; exact numL_at l acc k (by simpa using h)
    · rw [List.getD_cons_succ]; exact numL_at l _ k (by simpa using h)
theorem numL_take {acc l : List Int} {k : Nat} (hk : k < l.length) : (numL acc l).take (k + 1) = (numL acc l).take k ++ [(numL acc l).getD k 0] := by
  have h : k < (numL acc l).length := by rw [numL_length]; exact hk
  rw [List.take_succ_eq_append_getElem h]
  simp [List.getD, h]
theorem seenL_len (acc l : List Int) (k : Nat) : (seenL acc (l.take k)).length ≤ acc.length + k := by
  have := seenL_length (l.take k) acc
  rw [List.length_take] at this
  omega
/-- cells put in, one more -/
theorem splice_snoc (C : List Value) (o k : Nat) (cs : List Value) (v : Value) (hcs : cs.length = k) (h : o + k < C.length) : (splice C o cs).set (o + k) v = splice C o (cs ++ [v]) := by
  unfold splice
  have hl : (C.take o).length = o := by rw [List.length_take]; omega
  rw [hcs, List.length_append, hcs, List.length_singleton]
  rw [List.set_append_right _ _ (by omega), hl, show o + k - o = k by omega, List.set_append_right _ _ (by omega), hcs, Nat.sub_self]
  rw [List.drop_eq_getElem_cons h, List.set_cons_zero, List.append_assoc, show o + (k + 1) = o + k + 1 by omega]
  rfl
theorem splice_get (C : List Value) (o : Nat) (cs : List Value) (j : Nat) (h : o + cs.length ≤ j) (h2 : o + cs.length ≤ C.length) : (splice C o cs)[j]? = C[j]? := by
  unfold splice
  have hl : (C.take o).length = o := by rw [List.length_take]; omega
  rw [List.getElem?_append_right (by omega), hl, List.getElem?_append_right (by omega), List.getElem?_drop, show o + cs.length + (j - o - cs.length) = j by omega]
end Go.Proofs.Ytllhdmpnjcemkac

namespace Go.Proofs.Ytllhdmpnjcemkac
open Go.RowKit Go.Maps
set_option linter.unusedSimpArgs false
set_option linter.unusedVariables false

/-- only two blocks are written -/
structure Wrote (b m : Nat) (w w' : World) : Prop where
  os : w'.os = w.os
  tape : w'.tape = w.tape
  output : w'.output = w.output
  size : w.heap.size ≤ w'.heap.size
  block : ∀ k, k < w.heap.size → k ≠ b → k ≠ m → w'.heap[k]? = w.heap[k]?
theorem Wrote.refl (b m : Nat) (w : World) : Wrote b m w w := ⟨rfl, rfl, rfl, Nat.le_refl _, fun _ _ _ _ => rfl⟩
theorem Wrote.trans {b m : Nat} {u v w : World} (h : Wrote b m u v) (k : Wrote b m v w) : Wrote b m u w :=
  ⟨k.os.trans h.os, k.tape.trans h.tape, k.output.trans h.output, Nat.le_trans h.size k.size, fun i hi h1 h2 => (k.block i (Nat.lt_of_lt_of_le hi h.size) h1 h2).trans (h.block i hi h1 h2)⟩
theorem Wrote.of_grown1 {b m : Nat} {w w' : World} (h : w.grownBy w' (some m)) : Wrote b m w w' := ⟨h.os, h.tape, h.output, h.size, fun k hk _ h2 => h.block k hk (by simp; exact h2)⟩
theorem Wrote.setCell {b m o : Nat} (w : World) (v : Value) : Wrote b m w (w.setCell ⟨b, o, none⟩ v) :=
  ⟨rfl, rfl, rfl, by simp, fun k hk h1 _ => RowKit.Below.heap_setCell _ _ _ _ (by exact h1)⟩
theorem Wrote.drewN {b m : Nat} (w : World) (q : Nat) : Wrote b m w (w.drewN q) := ⟨rfl, rfl, rfl, Nat.le_refl _, fun _ _ _ _ => rfl⟩
theorem Wrote.below {b m B : Nat} {u w w' : World} (h : Wrote b m w w') (hu : Below B u w) (hB : B ≤ w.heap.size) (h1 : B ≤ b) (h2 : B ≤ m) : Below B u w' :=
  ⟨h.os.trans hu.os, h.tape.trans hu.tape, h.output.trans hu.output, Nat.le_trans hu.size h.size, fun k hk => (h.block k (by omega) (by omega) (by omega)).trans (hu.block k hk)⟩

theorem lawI : Keyed Try.prog 3 := int_keyed Try.underlying3
theorem zeroI (w : World) : (zeroValue 3).run Try.prog w = .ok (.int .i64 0) w := by kernel_rfl
theorem wfI {x : Int} (h : -9223372036854775808 ≤ x ∧ x ≤ 9223372036854775807) : (Lit.int .i64 x).wf = true := by
  simp [Lit.wf, IntKind.min, IntKind.max, IntKind.signed, IntKind.bits]; omega

/-- 'e.parts[:n]' somewhere in a block -/
theorem run_parts_at (b o n : Nat) (w : World) (hn : n ≤ 6) : (Instr.sliceAt 73 (.pointer (some ⟨b, o, none⟩)) none (some (.int .i64 (n : Int))) none).run Try.prog w = .ok (.slice (some ⟨b, o, none⟩) n 6) w := by
  have h := run_sliceAt_array_h (P := Try.prog) w 73 ⟨b, o, none⟩ (by rw [arrayLen6, arrayElem6]; exact arrayUnder6) .i64 (n : Int) (by omega) (by rw [arrayLen6]; omega)
  rw [h, arrayLen6, arrayElem6]
  obtain ⟨i0, hi, hz0, hz1, hz2⟩ := info_parts Try.info3
  simp [sizeOf, typeInfo, hi, hz1, slicedAt, Result.andThen, Addr.add]

theorem row_put {w : World} {g k : Nat} {L : List Value} {t : TypeId} (h : w.heap[g]? = some (.cells L.toArray t (0, 0))) (x : Value) : (w.setCell ⟨g, k, none⟩ x).heap[g]? = some (.cells (L.set k x).toArray t (0, 0)) := by
  have := heap_setCell_same w g k _ _ x h
  rw [this]
  simp
theorem splice_len {C : List Value} {o : Nat} {cs : List Value} {j : Nat} (h : o + cs.length ≤ C.length) (hj : j < C.length) : j < (splice C o cs).length := by rw [length_splice C o cs h]; exact hj
theorem cell_some {w : World} {g : Nat} {L : List Value} {t : TypeId} (h : w.heap[g]? = some (.cells L.toArray t (0, 0))) (k : Nat) (hk : k < L.length) : ∃ x, w.cell? ⟨g, k, none⟩ = some x := by
  rw [cell_of_row w g k _ _ _ h]
  exact ⟨L[k], by simp [hk]⟩
abbrev Nums (w : World) (m N : Nat) (acc : List Int) : Prop := w.ownsMap Try.prog 3 (plainElem Try.prog 3) m N (mapD acc)
def NumOut (b o m N : Nat) (C : List Value) (T : TypeId) (acc l : List Int) (w : World) (e : Ending) (w' : World) : Prop :=
  e = .returned (.tuple #[]) ∧ w'.heap[b]? = some (.cells (splice C o (ints (numL acc l))).toArray T (0, 0)) ∧ Nums w' m (N + l.length) (seenL acc l) ∧ Wrote b m w w'

set_option maxHeartbeats 4000000 in
set_option maxRecDepth 100000 in
theorem number_any (acc l : List Int) (b o m N : Nat) (C : List Value) (T : TypeId) (w : World) (hb : w.heap[b]? = some (.cells C.toArray T (0, 0))) (hC : ∀ i, i < l.length → C[o + i]? = some (.int .i64 (l.getD i 0)))
    (hn : C[o + 6]? = some (.int .i64 (l.length : Int))) (h6 : l.length ≤ 6) (hm : Nums w m N acc) (hmb : m ≠ b) (hnd : acc.Nodup) (hN : N ≤ 100) (ha : acc.length ≤ 100) (hwf : Wf l) :
    Calls Try.prog 112 #[.pointer (some ⟨b, o, none⟩), .map (some m)] w (NumOut b o m N C T acc l w) := by
  have hcell := fun (D : List Value) (k : Nat) (w : World) (h : w.heap[b]? = some (.cells D.toArray T (0, 0))) => cell_of_row w b k _ _ _ h
  have hlenC : o + 6 < C.length := (List.getElem?_eq_some_iff.1 hn).1
  have hsz := hcell C (o + 6) w hb
  rw [List.getElem?_toArray, hn] at hsz
  obtain ⟨n, hnn⟩ : ∃ n, n = l.length := ⟨_, rfl⟩
  have HNL : Hid ((numL acc l).length = n) := by show _ = _; rw [numL_length, hnn]
  rw [← hnn] at hsz h6
  have HNN := Lib.hid hnn
  have HC := Lib.hid hC
  have HST := Lib.hid (fun k (hk : k < n) => @seenL_take acc l k (by rw [← hnn]; exact hk))
  have HNT := Lib.hid (fun k (hk : k < n) => @numL_take acc l k (by rw [← hnn]; exact hk))
  have HNA := Lib.hid (fun k (hk : k < n) => numL_at l acc k (by rw [← hnn]; exact hk))
  have HSL := Lib.hid (fun k => seenL_len acc l k)
  have HND := Lib.hid (fun k => seenL_nodup (l.take k) acc hnd)
  have HWF := Lib.hid (fun k (hk : k < n) => show -9223372036854775808 ≤ l.getD k 0 ∧ l.getD k 0 ≤ 9223372036854775807 from by
    have hk' : k < l.length := by rw [← hnn]; exact hk
    rw [show l.getD k 0 = l[k] by simp [List.getD, hk']]
    exact hwf _ (List.getElem_mem hk'))
  have hal := fun b o w => run_parts_at b o n w h6
  have HM := Lib.hid hm; have HB := Lib.hid hb
  clear hC hn hnn hnd hwf hm hb
  go_enter Try.func112, Try.ntmps112
  go_wp2
  go_quiet (fail)
  go_wp2
  go_loopw [17] (fun i wr => ∃ k : Nat, k ≤ n ∧ i = .int .i64 k ∧ Hid (wr.heap[b]? = some (.cells (splice C o (ints ((numL acc l).take k))).toArray T (0, 0))) ∧ Hid (Nums wr m (N + k) (seenL acc (l.take k))) ∧ Hid (Wrote b m w wr)) (fun i _ => n - (intOf i).toNat)
  case atStart => exact ⟨0, by omega, rfl, by show _ = _; rw [List.take_zero]; exact (by simpa [splice, ints] using HB.out), HM, Lib.hid (Wrote.drewN w _)⟩
  case round =>
    clear HM HB hsz
    obtain ⟨k, hk, rfl, HR, HM, HW⟩ := hrel
    generalize wr = wc at *
    by_cases hlt : k < n
    · have hk6 : k < 6 := by omega
      have htl : (ints ((numL acc l).take k)).length = k := by rw [ints_length, List.length_take, HNL.out]; omega
      have hc := hcell _ (o + k) wc HR.out
      rw [List.getElem?_toArray, splice_get _ _ _ _ (by omega) (by omega), HC.out k (by rw [← HNN.out]; exact hlt)] at hc
      have hf := frozen_of_row wc b (o + k) _ _ HR.out
      have hst := HST.out k hlt
      have hnt := HNT.out k hlt
      have hna := HNA.out k hlt
      have hsl := HSL.out k
      have hnd := HND.out k
      have hwf := HWF.out k hlt
      have hspl : ∀ y : Int, y = (numL acc l).getD k 0 → (splice C o (ints ((numL acc l).take k))).set (o + k) (.int .i64 y) = splice C o (ints ((numL acc l).take (k + 1))) := fun y hy => by
        rw [splice_snoc C o k _ _ htl (by omega), hnt, ← hy]
        simp [ints]
      generalize (numL acc l).getD k 0 = y at *
      generalize l.getD k 0 = x at *
      generalize seenL acc (l.take k) = S at *
      have HST2 := Lib.hid hst; have HNA2 := Lib.hid hna; have HND2 := Lib.hid hnd; have HSPL := Lib.hid hspl
      have hkey : keyOf Try.prog 3 (.int .i64 x) = some (.int .i64 x) := keyOf_int_mk Try.underlying3 (wfI hwf)
      have HKEY := Lib.hid hkey
      clear hst hnt hna hnd hspl htl hkey hcell
      by_cases hx : x ∈ S
      · have HH : Hid (Maps.has (mapD S) (.int .i64 x) = true) := by show _ = true; rw [mapD_has]; exact decide_eq_true hx
        have HA := Lib.hid (mapD_at x S HND2.out hx (.lit (.int .i64 0)))
        have HY : Hid (y = (S.idxOf x : Int)) := by show _ = _; rw [HNA2.out, if_pos hx]
        have HS2 : Hid (seenL acc (l.take (k + 1)) = S) := by show _ = _; rw [HST2.out, if_pos hx]
        clear hx
        go_wp2_with (at_lookup; refine wpList_lookup_own_ok_int _ rfl _ _ 138 rfl 3 3 .i64 lawI Try.underlying138 Try.underlying3 (zeroI _) m (N + k) (mapD S) rfl HM.out _ _ rfl HKEY.out ?_; intro c hat hwc; rw [HH.out]; have HAT := Lib.hid hat; clear hat hwc)
        have HCY : Hid (c = y) := by
          have h1 := HAT.out
          rw [HA.out] at h1
          simp only [DataW.lit.injEq, Lit.int.injEq, true_and] at h1
          show c = y
          rw [HY.out, h1]
        go_roundw
        case rel => exact ⟨k + 1, by omega, by go_num, by show _ = _; rw [← HSPL.out c HCY.out]; exact row_put HR.out _, by rw [HS2.out]; exact Lib.hid ((HM.out.mono (by omega)).setCell hmb _), Lib.hid (HW.out.trans (Wrote.setCell _ _))⟩
        case measure => simp [intOf]; omega
      · have HH : Hid (Maps.has (mapD S) (.int .i64 x) = false) := by show _ = false; rw [mapD_has]; exact decide_eq_false hx
        have HSZ := Lib.hid (mapD_size S HND2.out)
        have HY : Hid ((S.length : Int) = y) := by show _ = _; rw [HNA2.out, if_neg hx]
        have HS2 : Hid (seenL acc (l.take (k + 1)) = S ++ [x]) := by show _ = _; rw [HST2.out, if_neg hx]
        have HPUT := Lib.hid (mapD_snoc S x)
        clear hx
        go_wp2_with (first
          | (at_lookup; refine wpList_lookup_own_ok_int _ rfl _ _ 138 rfl 3 3 .i64 lawI Try.underlying138 Try.underlying3 (zeroI _) m (N + k) (mapD S) rfl HM.out _ _ rfl HKEY.out ?_; intro c hat hwc; rw [HH.out]; clear hat hwc)
          | (at_len; refine wpList_len_own _ rfl _ 138 rfl 3 3 Try.underlying138 _ m (N + k) _ rfl HM.out ?_; rw [HSZ.out])
          | (at_mapUpdate; refine wpList_mapUpdate_own _ rfl _ _ _ 138 rfl 3 3 lawI Try.underlying138 _ m (N + k) _ rfl HM.out (by unfold maxLen; omega) _ _ _ rfl rfl HKEY.out _ [] (plainElem_int Try.underlying3 (wfI (by omega))) ?_; intro w1 hown1 hgrow1; have HM1 := Lib.hid hown1; have HR1 := Lib.hid (show w1.heap[b]? = _ from (hgrow1.block b (Array.getElem?_eq_some_iff.1 HR.out).1 (by simp; omega)).trans HR.out); have HW1 := Lib.hid (HW.out.trans (Wrote.of_grown1 hgrow1)); have hf1 := frozen_of_row w1 b (o + k) _ _ HR1.out; have hc1 := cell_some HR1.out (o + k) (splice_len (C := C) (o := o) (cs := ints ((numL acc l).take k)) (j := o + k) (by rw [ints_length, List.length_take, HNL.out]; omega) (by omega)); obtain ⟨xx, hc1⟩ := hc1; clear hown1 hgrow1))
        go_roundw
        case rel => exact ⟨k + 1, by omega, by go_num, by show _ = _; rw [← HSPL.out _ HY.out]; exact row_put HR1.out _, by rw [HS2.out]; show Hid (World.ownsMap _ _ _ _ _ _ (mapD (S ++ [x]))); rw [HPUT.out]; exact Lib.hid (HM1.out.setCell hmb _), Lib.hid (HW1.out.trans (Wrote.setCell _ _))⟩
        case measure => simp [intOf]; omega
    · obtain rfl : k = n := by omega
      have hr := HR.out
      have hm := HM.out
      rw [List.take_of_length_le (by rw [HNL.out]; exact Nat.le_refl _)] at hr
      rw [List.take_of_length_le (by rw [← HNN.out]; exact Nat.le_refl _)] at hm
      have HR2 := Lib.hid hr; have HM2 := Lib.hid hm
      clear hr hm hcell
      go_wp2
      go_end0
      exact ⟨rfl, HR2.out, by rw [← HNN.out]; exact HM2.out, HW.out⟩

end Go.Proofs.Ytllhdmpnjcemkac
