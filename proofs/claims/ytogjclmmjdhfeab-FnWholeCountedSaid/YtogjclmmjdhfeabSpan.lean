/- Spans, and whether they cross. -/
import Derived.Test.YtogjclmmjdhfeabGood
import Derived.Test.YtogjclmmjdhfeabOwn
import Derived.RegionTactic
import Derived.BigRegion
import Derived.Deep.RegionHeld3
import Derived.Deep.RegionWith
namespace Go.Proofs.Ytogjclmmjdhfeab
open Go.RowKit
set_option linter.unusedSimpArgs false
set_option linter.unusedVariables false

/-- two cells that stay -/
theorem h2_start {w0 w : World} {a b : Addr} {x y : Value} (h0 : w.cell? a = some x) (h1 : w.cell? b = some y) (hb : Below w0.heap.size w0 w) : Hid (Below w0.heap.size w0 w) ∧ w.cell? a = some x ∧ w.cell? b = some y := ⟨hb, h0, h1⟩
theorem h2_keep {w0 w1 w2 : World} {a b : Addr} {x y : Value} (h : Hid (Below w0.heap.size w0 w1) ∧ w1.cell? a = some x ∧ w1.cell? b = some y) (hb : Below w1.heap.size w1 w2) : Hid (Below w0.heap.size w0 w2) ∧ w2.cell? a = some x ∧ w2.cell? b = some y :=
  ⟨Below.step h.1.out hb, (hb.cell (World.block_lt_of_cell? w1 _ h.2.1)).trans h.2.1, (hb.cell (World.block_lt_of_cell? w1 _ h.2.2)).trans h.2.2⟩
theorem h2_out {w0 w1 : World} {a b : Addr} {x y : Value} (h : Hid (Below w0.heap.size w0 w1) ∧ w1.cell? a = some x ∧ w1.cell? b = some y) : Below w0.heap.size w0 w1 := h.1.out
/-- four cells that stay -/
theorem h4_start {w0 w : World} {a b c d : Addr} {x y z u : Value} (h0 : w.cell? a = some x) (h1 : w.cell? b = some y) (h2 : w.cell? c = some z) (h3 : w.cell? d = some u) (hb : Below w0.heap.size w0 w) : Hid (Below w0.heap.size w0 w) ∧ w.cell? a = some x ∧ w.cell? b = some y ∧ w.cell? c = some z ∧ w.cell? d = some u := ⟨hb, h0, h1, h2, h3⟩
theorem h4_keep {w0 w1 w2 : World} {a b c d : Addr} {x y z u : Value} (h : Hid (Below w0.heap.size w0 w1) ∧ w1.cell? a = some x ∧ w1.cell? b = some y ∧ w1.cell? c = some z ∧ w1.cell? d = some u) (hb : Below w1.heap.size w1 w2) : Hid (Below w0.heap.size w0 w2) ∧ w2.cell? a = some x ∧ w2.cell? b = some y ∧ w2.cell? c = some z ∧ w2.cell? d = some u :=
  ⟨Below.step h.1.out hb, (hb.cell (World.block_lt_of_cell? w1 _ h.2.1)).trans h.2.1, (hb.cell (World.block_lt_of_cell? w1 _ h.2.2.1)).trans h.2.2.1, (hb.cell (World.block_lt_of_cell? w1 _ h.2.2.2.1)).trans h.2.2.2.1, (hb.cell (World.block_lt_of_cell? w1 _ h.2.2.2.2)).trans h.2.2.2.2⟩
theorem h4_out {w0 w1 : World} {a b c d : Addr} {x y z u : Value} (h : Hid (Below w0.heap.size w0 w1) ∧ w1.cell? a = some x ∧ w1.cell? b = some y ∧ w1.cell? c = some z ∧ w1.cell? d = some u) : Below w0.heap.size w0 w1 := h.1.out



end Go.Proofs.Ytogjclmmjdhfeab
