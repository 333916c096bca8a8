/- The program's round: the open ends around the line. -/
import Derived.Test.YtllhdmpnjcemkacRev
import Derived.Test.YtllhdmpnjcemkacFront
import Derived.Test.YtllhdmpnjcemkacSlice
import Derived.Deep.MidRow
namespace Go.Proofs.Ytllhdmpnjcemkac
open Go.RowKit Go.Maps
set_option linter.unusedSimpArgs false
set_option linter.unusedVariables false

theorem FrIn.up {w : World} {g : Nat} {u d : List Int} {c : Int} (h : FrIn w g u d c) (hu : u.length ≤ 6) : w.rangeAt g 0 (endL u) := by
  intro j v hj
  have hj7 : j < 7 := by have := (List.getElem?_eq_some_iff.1 hj).1; rwa [endL_length hu] at this
  rw [Nat.zero_add, cell_of_row w g j _ _ _ h]
  simp only [frC, List.getElem?_toArray]
  rw [frL_up c hu j hj7, hj]
theorem FrIn.down {w : World} {g : Nat} {u d : List Int} {c : Int} (h : FrIn w g u d c) (hu : u.length ≤ 6) (hd : d.length ≤ 6) : w.rangeAt g 7 (endL d) := by
  intro j v hj
  have hj7 : j < 7 := by have := (List.getElem?_eq_some_iff.1 hj).1; rwa [endL_length hd] at this
  rw [cell_of_row w g (7 + j) _ _ _ h]
  simp only [frC, List.getElem?_toArray]
  rw [frL_down c hu hd j hj7, hj]
theorem wp_loadEnds {ops : Array Oper} {rest : List Oper} {o : Oper} {a : Act} {w : World} {Q : Exit → Act → World → Prop} (hgd : o.guard = none) (x : Operand) (ho : o.op = .load 75 x)
    (g off : Nat) (l : List Int) (hl : l.length ≤ 6) (hx : a.eval x = .pointer (some ⟨g, off, none⟩)) (hg : w.rangeAt g off (endL l))
    (h : wpList Try.prog ops Q rest (a.put o.dst (.agg (endC l))) w) : wpList Try.prog ops Q (o :: rest) a w :=
  wpList_load_mid hgd _ x ho g off hx (endL l) _ hg Try.underlying75 rfl (by rw [end_info, endL_length hl]) h
set_option maxHeartbeats 1000000 in
theorem round_any (u d : List Int) (c : Int) (w : World) (hu : u.length ≤ 6) (hd : d.length ≤ 6) :
    Calls Try.prog 113 #[.agg (frC u d c)] w (Made w (roundL u d)) := by
  have HU := Lib.hid hu; have HD := Lib.hid hd
  have HF := Lib.hid (show FrIn (w.alloc (.cells (frC u d c) 77)) w.heap.size u d c from heap_alloc_new w _)
  have HB := Lib.hid (show Below w.heap.size w (w.alloc (.cells (frC u d c) 77)) from Below.alloc1 w _)
  clear hu hd
  go_enter Try.func113, Try.ntmps113
  go_wp2_with (with_reducible refine wp_loadEnds rfl (.tmp 4) rfl w.heap.size 7 d HD.out rfl (HF.out.down HU.out HD.out) ?_)
  refine (endsList_any d _ HD.out).mono ?_
  rintro e w1 ⟨v1, rfl, ho1, hb1⟩
  have HO1 := Lib.hid ho1; have HF1 := Lib.hid (HF.out.below hb1); have HB1 := Lib.hid (Below.step HB.out hb1)
  clear ho1 hb1
  go_wp2_with (first
    | (go_at_call 127; ((refine (reverse_any _ _ d _ HO1.out).mono ?_); rintro e w2 ⟨rfl, ho2, hb2⟩; have HO2 := Lib.hid ho2; have HF2 := Lib.hid (HF1.out.under hb2 (by simp)); have HB2 := Lib.hid (HB1.out.trans (hb2.mono (by simp))); clear ho2 hb2))
    | (with_reducible refine wp_loadEnds rfl (.tmp 9) rfl w.heap.size 0 u HU.out rfl (HF2.out.up HU.out) ?_)
    | (go_at_call 82; ((refine (endsList_any u _ HU.out).mono ?_); rintro e w3 ⟨v3, rfl, ho3, hb3⟩; have HO3 := Lib.hid ho3; have HO23 := Lib.hid (HO2.out.below hb3); have HB3 := Lib.hid (Below.step HB2.out hb3); clear ho3 hb3))
    | (at_builtin; refine wp_append _ rfl (.tmp 11) (.tmp 12) rfl w.heap.size _ _ u d.reverse rfl rfl (HO3.out.mono HB2.out.size) HO23.out.rd (by have := HU.out; have := HD.out; rw [List.length_reverse]; omega) HB3.out.size ?_; intro v4 w4 ho4 hg4 hb4))
  go_ret
  exact ⟨_, rfl, ho4, HB3.out.trans hb4⟩

end Go.Proofs.Ytllhdmpnjcemkac
