/- The laws' marks on states. -/
import Derived.Test.YtnkkgbecdckigacStateLaw
import Derived.Test.YtnkkgbecdckigacMeander
namespace Go.Proofs.Ytnkkgbecdckigac
open Go.RowKit
set_option linter.unusedSimpArgs false
set_option linter.unusedVariables false

theorem held6_start {T T' : TypeId} {w : World} {b b' : Nat} {u1 u2 u3 v1 v2 v3 : Value} (h : Box3 T w b u1 u2 u3) (h' : Box3 T' w b' v1 v2 v3) :
    Hid (Below w.heap.size w w.drew) ∧ w.drew.cell? ⟨b, 0, none⟩ = some u1 ∧ w.drew.cell? ⟨b, 1, none⟩ = some u2 ∧ w.drew.cell? ⟨b, 2, none⟩ = some u3 ∧ w.drew.cell? ⟨b', 0, none⟩ = some v1 ∧ w.drew.cell? ⟨b', 1, none⟩ = some v2 ∧ w.drew.cell? ⟨b', 2, none⟩ = some v3 :=
  ⟨Below.drew (Below.refl _ _), h.c0, h.c1, h.c2, h'.c0, h'.c1, h'.c2⟩
theorem held6_keep {w w1 w2 : World} {a b c d e f : Addr} {x y z u v t : Value} (h : Hid (Below w.heap.size w w1) ∧ w1.cell? a = some x ∧ w1.cell? b = some y ∧ w1.cell? c = some z ∧ w1.cell? d = some u ∧ w1.cell? e = some v ∧ w1.cell? f = some t) (hb : Below w1.heap.size w1 w2) :
    Hid (Below w.heap.size w w2) ∧ w2.cell? a = some x ∧ w2.cell? b = some y ∧ w2.cell? c = some z ∧ w2.cell? d = some u ∧ w2.cell? e = some v ∧ w2.cell? f = some t :=
  ⟨Below.step h.1.out hb, (hb.cell (World.block_lt_of_cell? w1 _ h.2.1)).trans h.2.1, (hb.cell (World.block_lt_of_cell? w1 _ h.2.2.1)).trans h.2.2.1, (hb.cell (World.block_lt_of_cell? w1 _ h.2.2.2.1)).trans h.2.2.2.1, (hb.cell (World.block_lt_of_cell? w1 _ h.2.2.2.2.1)).trans h.2.2.2.2.1, (hb.cell (World.block_lt_of_cell? w1 _ h.2.2.2.2.2.1)).trans h.2.2.2.2.2.1, (hb.cell (World.block_lt_of_cell? w1 _ h.2.2.2.2.2.2)).trans h.2.2.2.2.2.2⟩
theorem held6_out {w w1 : World} {a b c d e f : Addr} {x y z u v t : Value} (h : Hid (Below w.heap.size w w1) ∧ w1.cell? a = some x ∧ w1.cell? b = some y ∧ w1.cell? c = some z ∧ w1.cell? d = some u ∧ w1.cell? e = some v ∧ w1.cell? f = some t) : Below w.heap.size w w1 := h.1

/-- both lists marked -/
def MarkedSt (lo hi : Nat) (w : World) (v1 v2 : Value) (k : Int) (n1 n2 : Nat) (e : Ending) (w' : World) : Prop :=
  e = .returned (.int .i64 (k + n1 + n2)) ∧ Own lo w' v1 (marks k n1) ∧ Own lo w' v2 (marks (k + n1) n2) ∧ Within lo hi w w'

set_option maxHeartbeats 1000000 in
theorem markState_any (lo hi : Nat) (v1 v2 : Value) (t b : List Int) (c : Int) (k : Int) (w : World) (h1 : Own lo w v1 t) (h2 : Own lo w v2 b) (i1 : In v1 lo hi) (i2 : In v2 lo hi) (hh : hi ≤ w.heap.size) (ap : ApartS v1 v2) (hk0 : 0 ≤ k) (hk1 : k ≤ 1000000000) (l1 : t.length ≤ 1000000000) (l2 : b.length ≤ 1000000000) :
    Calls Try.prog 16 #[.agg #[v1, v2, .int .i64 c], .int .i64 k] w (MarkedSt lo hi w v1 v2 k t.length b.length) := by
  have hA := Box3.new 26 w v1 v2 (.int .i64 c)
  have B1 : Below w.heap.size w (w.alloc (.cells #[v1, v2, .int .i64 c] 26)) := Below.alloc1 w _
  have k0 := hA.c0; have k1 := hA.c1
  have HA := Lib.hid hA; have H1 := Lib.hid (h1.below B1); have H2 := Lib.hid (h2.below B1); have I1 := Lib.hid i1; have I2 := Lib.hid i2; have AP := Lib.hid ap; have HB := Lib.hid B1
  have W1 : Within lo hi w (w.alloc (.cells #[v1, v2, .int .i64 c] 26)) := ⟨rfl, rfl, rfl, by simp, fun k hk _ => B1.block k hk⟩
  have HW := Lib.hid W1; have L1 := Lib.hid l1; have L2 := Lib.hid l2; have HH := Lib.hid hh
  obtain ⟨n1, hn1⟩ : ∃ n, n = t.length := ⟨_, rfl⟩
  have N1 := Lib.hid hn1
  have hb1 : n1 ≤ 1000000000 := by omega
  rw [← hn1]
  clear h1 h2 i1 i2 ap hA B1 W1 hn1 l1 l2 hh
  go_enter Try.func16, Try.ntmps16
  go_wp2_with fail
  refine (markIntS_any lo v1 t k _ H1.out hk0 (by omega) L1.out).mono ?_
  rintro e w1 ⟨rfl, ho1, hg1⟩
  rw [← N1.out] at ho1 ⊢
  have hA1 := HA.out.grown hg1 (fun e => by have := (I1.out _ e.symm).2; have := HH.out; omega)
  have m1 := hA1.c1
  have h21 := H2.out.grown hg1 (fun k hk e => AP.out k e hk)
  have HO := Lib.hid ho1; have HP := Lib.hid h21; have HW1 := Lib.hid (HW.out.trans (Within.of_grown hg1 I1.out))
  clear ho1 hA1 h21 hg1
  go_wp2_with fail
  refine (markIntS_any lo v2 b (k + n1) _ HP.out (by omega) (by omega) L2.out).mono ?_
  rintro e w2 ⟨rfl, ho2, hg2⟩
  have h12 := HO.out.grown hg2 (fun k hk e => AP.out k hk e)
  have HO2 := Lib.hid h12; have HP2 := Lib.hid ho2; have HW2 := Lib.hid (HW1.out.trans (Within.of_grown hg2 I2.out))
  clear h12 ho2 hg2
  go_wp2
  go_ret
  exact ⟨rfl, HO2.out, HP2.out, HW2.out⟩

set_option maxHeartbeats 1000000 in
theorem heldState_ok (v1 v2 : Value) (c : Int) (k : Int) (n1 n2 : Nat) (w : World) (h1 : Rd w v1 (marks k n1)) (h2 : Rd w v2 (marks (k + n1) n2)) (hk0 : 0 ≤ k) (hk1 : k ≤ 1000000000) (l1 : n1 ≤ 1000000000) (l2 : n2 ≤ 1000000000) :
    Calls Try.prog 17 #[.agg #[v1, v2, .int .i64 c], .int .i64 k] w fun e w' => e = .returned (.int .i64 (k + n1 + n2)) ∧ Below w.heap.size w w' := by
  have hA := Box3.new 26 w v1 v2 (.int .i64 c)
  have B1 : Below w.heap.size w (w.alloc (.cells #[v1, v2, .int .i64 c] 26)) := Below.alloc1 w _
  have k0 := hA.c0; have k1 := hA.c1
  have HA := Lib.hid hA; have H1 := Lib.hid (h1.below B1); have H2 := Lib.hid (h2.below B1); have HB := Lib.hid B1
  clear h1 h2 hA B1
  go_enter Try.func17, Try.ntmps17
  go_wp2_with fail
  refine (heldIntS_ok v1 k n1 _ H1.out hk0 (by omega) l1).mono ?_
  rintro e w1 ⟨rfl, hb1⟩
  have m1 := (HA.out.below hb1).c1
  have HB1 := Lib.hid (Below.step HB.out hb1); have H21 := Lib.hid (H2.out.below hb1)
  clear hb1
  go_wp2_with fail
  refine (heldIntS_ok v2 (k + n1) n2 _ H21.out (by omega) (by omega) l2).mono ?_
  rintro e w2 ⟨rfl, hb2⟩
  have HB2 := Lib.hid (Below.step HB1.out hb2)
  clear hb2
  go_wp2
  go_ret
  exact ⟨rfl, HB2.out⟩

end Go.Proofs.Ytnkkgbecdckigac
