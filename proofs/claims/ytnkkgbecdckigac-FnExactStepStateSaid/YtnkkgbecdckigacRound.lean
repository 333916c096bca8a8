/- The program's round: the open ends around the line. -/
import Derived.Test.YtnkkgbecdckigacFront
import Derived.Test.YtnkkgbecdckigacLayRev
import Derived.Test.YtnkkgbecdckigacSlice
import Derived.Deep.MidRow
namespace Go.Proofs.Ytnkkgbecdckigac
open Go.RowKit Go.Maps
set_option linter.unusedSimpArgs false
set_option linter.unusedVariables false

theorem put_heap {w : World} {g n k : Nat} {d : Array Int} (enc : Int → Value) : (Go.Sort.putRow enc (Go.Sort.ahead w n) g 0 d).heap[k]? = if g = k then (w.heap[k]?).map (Go.Sort.onCells (Go.Sort.putCells enc 0 d)) else w.heap[k]? := by
  show (w.heap.modify g (Go.Sort.onCells (Go.Sort.putCells enc 0 d)))[k]? = _
  rw [Array.getElem?_modify]
theorem putI_take (l : List Int) (cur : Array Value) (h : l.length ≤ cur.size) : (Go.Sort.putCells (Value.int .i64) 0 l.toArray cur).size = cur.size ∧ (Go.Sort.putCells (Value.int .i64) 0 l.toArray cur).toList.take l.length = ints l := by
  unfold Go.Sort.putCells
  refine ⟨by simp, ?_⟩
  apply List.ext_getElem?
  intro t
  rw [List.getElem?_take]
  by_cases ht : t < l.length
  · rw [if_pos ht]
    have h1 : t < cur.size := by omega
    simp [h1, ht, ints]
  · rw [if_neg ht]
    rw [List.getElem?_eq_none (by rw [ints_length]; omega)]
def Turned (B : Nat) (w : World) (v : Value) (l : List Int) (e : Ending) (w' : World) : Prop := e = .returned (.tuple #[]) ∧ Own B w' v l ∧ Below B w w'
theorem reverse_any (B : Nat) (v : Value) (l : List Int) (w : World) (h : Own B w v l) : Calls Try.prog 104 #[v] w (Turned B w v l.reverse) := by
  have h0 := h
  rcases h.2 with ⟨rfl, hn⟩ | ⟨g, cap, cur, rfl, hB, hg, hnc, hcm, hcs, ht⟩
  · obtain rfl : l = [] := List.eq_nil_of_length_eq_zero hn
    exact (Go.Proofs.AnyE.slices_Reverse_empty layRev none 0 w).mono fun e w' ⟨h1, h2⟩ => ⟨h1, by rw [h2]; exact h0, by rw [h2]; exact Below.refl _ _⟩
  · have hc : ∀ j, j < l.toArray.size → w.cell? ⟨g, 0 + j, none⟩ = some (Value.int .i64 l.toArray[j]!) ∧ w.frozen? ⟨g, 0 + j, none⟩ = false := fun j hj => by
      have hjl : j < l.length := by simpa using hj
      rw [Nat.zero_add]
      refine ⟨?_, h0.frozenAt j⟩
      rw [h0.cellAt j hjl]
      simp [List.getD, hjl]
    have hcm' := hcm
    unfold maxLen at hcm'
    refine (Go.Proofs.AnyE.slices_Reverse layRev (Value.int .i64) (fun _ => rfl) g 0 cap l w hc (by omega)).mono fun e w' ⟨h1, n, h2⟩ => ?_
    rw [h2]
    have hgs := (Array.getElem?_eq_some_iff.1 hg).1
    have hp := putI_take l.reverse cur (by rw [List.length_reverse]; omega)
    rw [List.length_reverse] at hp
    refine ⟨h1, ⟨by simp [ints], .inr ⟨g, cap, _, by rw [List.length_reverse], hB, by rw [put_heap, if_pos rfl, hg]; rfl, by rw [List.length_reverse]; exact hnc, hcm, by rw [hp.1]; exact hcs, ?_⟩⟩, ⟨rfl, rfl, rfl, ?_, fun k hk => ?_⟩⟩
    · rw [List.length_reverse, Nat.mul_one]; exact hp.2
    · show w.heap.size ≤ (w.heap.modify g _).size
      simp
    · rw [put_heap, if_neg (by omega)]

theorem FrIn.up {w : World} {g : Nat} {u d : List Int} {c : Int} (h : FrIn w g u d c) (hu : u.length ≤ 6) : w.rangeAt g 0 (endL u) := by
  intro j v hj
  have hj7 : j < 7 := by have := (List.getElem?_eq_some_iff.1 hj).1; rwa [endL_length hu] at this
  rw [Nat.zero_add, cell_of_row w g j _ _ _ h]
  simp only [frC, List.getElem?_toArray]
  rw [frL_up c hu j hj7, hj]
theorem FrIn.down {w : World} {g : Nat} {u d : List Int} {c : Int} (h : FrIn w g u d c) (hu : u.length ≤ 6) (hd : d.length ≤ 6) : w.rangeAt g 7 (endL d) := by
  intro j v hj
  have hj7 : j < 7 := by have := (List.getElem?_eq_some_iff.1 hj).1; rwa [endL_length hd] at this
  rw [cell_of_row w g (7 + j) _ _ _ h]
  simp only [frC, List.getElem?_toArray]
  rw [frL_down c hu hd j hj7, hj]
theorem wp_loadEnds {ops : Array Oper} {rest : List Oper} {o : Oper} {a : Act} {w : World} {Q : Exit → Act → World → Prop} (hgd : o.guard = none) (x : Operand) (ho : o.op = .load 64 x)
    (g off : Nat) (l : List Int) (hl : l.length ≤ 6) (hx : a.eval x = .pointer (some ⟨g, off, none⟩)) (hg : w.rangeAt g off (endL l))
    (h : wpList Try.prog ops Q rest (a.put o.dst (.agg (endC l))) w) : wpList Try.prog ops Q (o :: rest) a w :=
  wpList_load_mid hgd _ x ho g off hx (endL l) _ hg Try.underlying64 rfl (by rw [end_info, endL_length hl]) h
set_option maxHeartbeats 1000000 in
theorem round_any (u d : List Int) (c : Int) (w : World) (hu : u.length ≤ 6) (hd : d.length ≤ 6) :
    Calls Try.prog 91 #[.agg (frC u d c)] w (Made w (roundL u d)) := by
  have HU := Lib.hid hu; have HD := Lib.hid hd
  have HF := Lib.hid (show FrIn (w.alloc (.cells (frC u d c) 66)) w.heap.size u d c from heap_alloc_new w _)
  have HB := Lib.hid (show Below w.heap.size w (w.alloc (.cells (frC u d c) 66)) from Below.alloc1 w _)
  clear hu hd
  go_enter Try.func91, Try.ntmps91
  go_wp2_with (with_reducible refine wp_loadEnds rfl (.tmp 4) rfl w.heap.size 7 d HD.out rfl (HF.out.down HU.out HD.out) ?_)
  refine (endsList_any d _ HD.out).mono ?_
  rintro e w1 ⟨v1, rfl, ho1, hb1⟩
  have HO1 := Lib.hid ho1; have HF1 := Lib.hid (HF.out.below hb1); have HB1 := Lib.hid (Below.step HB.out hb1)
  clear ho1 hb1
  go_wp2_with (first
    | (go_at_call 104; ((refine (reverse_any _ _ d _ HO1.out).mono ?_); rintro e w2 ⟨rfl, ho2, hb2⟩; have HO2 := Lib.hid ho2; have HF2 := Lib.hid (HF1.out.under hb2 (by simp)); have HB2 := Lib.hid (HB1.out.trans (hb2.mono (by simp))); clear ho2 hb2))
    | (with_reducible refine wp_loadEnds rfl (.tmp 9) rfl w.heap.size 0 u HU.out rfl (HF2.out.up HU.out) ?_)
    | (go_at_call 74; ((refine (endsList_any u _ HU.out).mono ?_); rintro e w3 ⟨v3, rfl, ho3, hb3⟩; have HO3 := Lib.hid ho3; have HO23 := Lib.hid (HO2.out.below hb3); have HB3 := Lib.hid (Below.step HB2.out hb3); clear ho3 hb3))
    | (at_builtin; refine wp_append _ rfl (.tmp 11) (.tmp 12) rfl w.heap.size _ _ u d.reverse rfl rfl (HO3.out.mono HB2.out.size) HO23.out.rd (by have := HU.out; have := HD.out; rw [List.length_reverse]; omega) HB3.out.size ?_; intro v4 w4 ho4 hg4 hb4))
  go_ret
  exact ⟨_, rfl, ho4, HB3.out.trans hb4⟩

end Go.Proofs.Ytnkkgbecdckigac
