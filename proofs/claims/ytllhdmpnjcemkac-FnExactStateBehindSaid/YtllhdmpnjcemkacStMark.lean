/- States as the laws see them: a struct of two lists and a number; the laws' own helpers on them. -/
/- The laws' marks on states. -/
import Derived.Test.YtllhdmpnjcemkacOwn
import Derived.Test.YtllhdmpnjcemkacMeander
namespace Go.Proofs.Ytllhdmpnjcemkac
open Go.RowKit
set_option linter.unusedSimpArgs false
set_option linter.unusedVariables false

theorem grownS_setCell {w : World} {b i : Nat} {v : Value} : w.grownBy (w.setCell ⟨b, i, none⟩ v) (some b) :=
  ⟨rfl, rfl, rfl, by simp, fun k _ hk => heap_setCell_other w ⟨b, i, none⟩ k _ (fun e => hk (by simp [e]))⟩
theorem grownS_trans {w w1 w2 : World} {b : Option Nat} (h1 : w.grownBy w1 b) (h2 : w1.grownBy w2 b) : w.grownBy w2 b :=
  ⟨h2.os.trans h1.os, h2.tape.trans h1.tape, h2.output.trans h1.output, Nat.le_trans h1.size h2.size, fun k hk hne => (h2.block k (Nat.lt_of_lt_of_le hk h1.size) hne).trans (h1.block k hk hne)⟩
/-- a struct of three cells in a variable -/
def Box3 (T : TypeId) (w : World) (b : Nat) (v1 v2 v3 : Value) : Prop := w.heap[b]? = some (.cells #[v1, v2, v3] T (0, 0))
theorem Box3.below {T : TypeId} {w w' : World} {b : Nat} {v1 v2 v3 : Value} (h : Box3 T w b v1 v2 v3) (hb : Below w.heap.size w w') : Box3 T w' b v1 v2 v3 := (hb.block b (Array.getElem?_eq_some_iff.1 h).1).trans h
theorem Box3.grown {T : TypeId} {w w' : World} {b : Nat} {v1 v2 v3 : Value} {row : Option Nat} (h : Box3 T w b v1 v2 v3) (hg : w.grownBy w' row) (hne : some b ≠ row) : Box3 T w' b v1 v2 v3 := (hg.block b (Array.getElem?_eq_some_iff.1 h).1 hne).trans h
theorem Box3.within {T : TypeId} {lo hi : Nat} {w w' : World} {b : Nat} {v1 v2 v3 : Value} (h : Box3 T w b v1 v2 v3) (hw : Within lo hi w w') (ha : b < lo ∨ hi ≤ b) : Box3 T w' b v1 v2 v3 := (hw.block b (Array.getElem?_eq_some_iff.1 h).1 ha).trans h
theorem Box3.lt {T : TypeId} {w : World} {b : Nat} {v1 v2 v3 : Value} (h : Box3 T w b v1 v2 v3) : b < w.heap.size := (Array.getElem?_eq_some_iff.1 h).1
theorem Box3.c0 {T : TypeId} {w : World} {b : Nat} {v1 v2 v3 : Value} (h : Box3 T w b v1 v2 v3) : w.cell? ⟨b, 0, none⟩ = some v1 := by rw [cell_of_row w b _ _ _ _ h]; rfl
theorem Box3.c1 {T : TypeId} {w : World} {b : Nat} {v1 v2 v3 : Value} (h : Box3 T w b v1 v2 v3) : w.cell? ⟨b, 1, none⟩ = some v2 := by rw [cell_of_row w b _ _ _ _ h]; rfl
theorem Box3.c2 {T : TypeId} {w : World} {b : Nat} {v1 v2 v3 : Value} (h : Box3 T w b v1 v2 v3) : w.cell? ⟨b, 2, none⟩ = some v3 := by rw [cell_of_row w b _ _ _ _ h]; rfl
theorem Box3.free {T : TypeId} {w : World} {b : Nat} {v1 v2 v3 : Value} (h : Box3 T w b v1 v2 v3) (k : Nat) : w.frozen? ⟨b, k, none⟩ = false := frozen_of_row w b k _ _ h
theorem Box3.set0 {T : TypeId} {w : World} {b : Nat} {v1 v2 v3 : Value} (h : Box3 T w b v1 v2 v3) (x : Value) : Box3 T (w.setCell ⟨b, 0, none⟩ x) b x v2 v3 := heap_setCell_same w b 0 _ _ x h
theorem Box3.set1 {T : TypeId} {w : World} {b : Nat} {v1 v2 v3 : Value} (h : Box3 T w b v1 v2 v3) (x : Value) : Box3 T (w.setCell ⟨b, 1, none⟩ x) b v1 x v3 := heap_setCell_same w b 1 _ _ x h
theorem Box3.set2 {T : TypeId} {w : World} {b : Nat} {v1 v2 v3 : Value} (h : Box3 T w b v1 v2 v3) (x : Value) : Box3 T (w.setCell ⟨b, 2, none⟩ x) b v1 v2 x := heap_setCell_same w b 2 _ _ x h
theorem Box3.new (T : TypeId) (w : World) (v1 v2 v3 : Value) : Box3 T (w.alloc (.cells #[v1, v2, v3] T)) w.heap.size v1 v2 v3 := heap_alloc_new w _

theorem sta_info : (Try.prog.info? 27).map (·.size) = some 3 := by kernel_rfl
def ApartS (u v : Value) : Prop := ∀ k, u.ownBlock = some k → v.ownBlock ≠ some k
/-- a state that a call made itself -/
def MadeSt (w : World) (t b : List Int) (c : Int) (e : Ending) (w' : World) : Prop := ∃ v1 v2, e = .returned (.agg #[v1, v2, .int .i64 c]) ∧ Own w.heap.size w' v1 t ∧ Own w.heap.size w' v2 b ∧ ApartS v1 v2 ∧ Below w.heap.size w w'

set_option maxHeartbeats 1000000 in
theorem eqState_ok (u1 u2 v1 v2 : Value) (t b : List Int) (c : Int) (w : World) (h1 : Rd w u1 t) (h2 : Rd w u2 b) (g1 : Rd w v1 t) (g2 : Rd w v2 b) :
    Calls Try.prog 16 #[.agg #[u1, u2, .int .i64 c], .agg #[v1, v2, .int .i64 c]] w (Good w) := by
  have B2 : Below w.heap.size w ((w.alloc (.cells #[u1, u2, .int .i64 c] 27)).alloc (.cells #[v1, v2, .int .i64 c] 27)) := Below.step (Below.alloc1 w _) (Below.alloc1 _ _)
  have hA : Box3 27 ((w.alloc (.cells #[u1, u2, .int .i64 c] 27)).alloc (.cells #[v1, v2, .int .i64 c] 27)) w.heap.size u1 u2 (.int .i64 c) := Box3.below (Box3.new _ w u1 u2 _) (Below.alloc1 _ _)
  have hC : Box3 27 ((w.alloc (.cells #[u1, u2, .int .i64 c] 27)).alloc (.cells #[v1, v2, .int .i64 c] 27)) (w.heap.size + 1) v1 v2 (.int .i64 c) := by
    have h := Box3.new 27 (w.alloc (.cells #[u1, u2, .int .i64 c] 27)) v1 v2 (.int .i64 c)
    rw [World.size_alloc] at h; exact h
  have k0 := hA.c0; have k1 := hA.c1; have k2 := hC.c0; have k3 := hC.c1
  have H1 := Lib.hid h1; have H2 := Lib.hid h2; have G1 := Lib.hid g1; have G2 := Lib.hid g2; have HA := Lib.hid hA; have HC := Lib.hid hC; have HB := Lib.hid B2
  clear h1 h2 g1 g2 hA hC B2
  go_enter Try.func16, Try.ntmps16
  go_wp2_with fail
  refine (eqIntS_ok _ _ t _ (H1.out.below HB.out) (G1.out.below HB.out)).mono ?_
  rintro e w1 ⟨rfl, hb1⟩
  have m1 := (HA.out.below hb1).c1; have m3 := (HC.out.below hb1).c1
  have HA1 := Lib.hid (HA.out.below hb1); have HC1 := Lib.hid (HC.out.below hb1)
  have HB1 := Lib.hid (Below.step HB.out hb1)
  clear hb1
  go_wp2_with fail
  refine (eqIntS_ok _ _ b _ (H2.out.below HB1.out) (G2.out.below HB1.out)).mono ?_
  rintro e w2 ⟨rfl, hb2⟩
  have HB2 := Lib.hid (Below.step HB1.out hb2)
  have n1 := (HA1.out.below hb2).c2; have n2 := (HC1.out.below hb2).c2
  clear hb2
  go_wp2
  go_ret
  exact ⟨rfl, HB2.out⟩

theorem szState_ok (a1 a2 : Option Addr) (n1 n2 c1 c2 : Nat) (c left : Int) (w : World) (h0 : 0 ≤ left) (h1 : left ≤ 1048576) (hn1 : n1 ≤ 9223372036854775807) (hn2 : n2 ≤ 9223372036854775807) (h : (n1 : Int) + n2 ≤ left) :
    Calls Try.prog 21 #[.agg #[.slice a1 n1 c1, .slice a2 n2 c2, .int .i64 c], .int .i64 left] w fun e w' => e = .returned (.int .i64 (left - n1 - n2)) ∧ Below w.heap.size w w' := by
  have hA := Box3.new 37 w (.slice a1 n1 c1) (.slice a2 n2 c2) (.int .i64 c)
  have k0 := hA.c0; have k1 := hA.c1
  go_enter Try.func21, Try.ntmps21
  go_wp2
  go_ret
  exact ⟨rfl, Below.alloc1 _ _⟩
theorem szState_no (a1 a2 : Option Addr) (n1 n2 c1 c2 : Nat) (c left : Int) (w : World) (h0 : 0 ≤ left) (h1 : left ≤ 1048576) (hn1 : n1 ≤ 9223372036854775807) (hn2 : n2 ≤ 9223372036854775807) (h : left < (n1 : Int) + n2) :
    Calls Try.prog 21 #[.agg #[.slice a1 n1 c1, .slice a2 n2 c2, .int .i64 c], .int .i64 left] w fun e w' => e = .returned (.int .i64 (-1)) ∧ Below w.heap.size w w' := by
  have hA := Box3.new 37 w (.slice a1 n1 c1) (.slice a2 n2 c2) (.int .i64 c)
  have k0 := hA.c0; have k1 := hA.c1
  by_cases h2 : left < (n1 : Int)
  · go_enter Try.func21, Try.ntmps21
    go_wp2
    go_ret
    exact ⟨rfl, Below.alloc1 _ _⟩
  · go_enter Try.func21, Try.ntmps21
    go_wp2
    go_ret
    exact ⟨rfl, Below.alloc1 _ _⟩

theorem results_toState (tmps : Array Value) (w : World) (g : Nat) (v1 v2 v3 : Value) (hg : Box3 27 w g v1 v2 v3) (h2 : tmps.getD 2 undef = .pointer (some ⟨g, 0, none⟩)) :
    (results Try.f23 tmps).run Try.prog w = .ok (.agg #[v1, v2, v3]) w :=
  results_cell_row (by kernel_rfl) tmps w g _ #[v1, v2, v3] _ _ h2 hg Try.underlying27 rfl (by rw [sta_info]; rfl)

theorem Own.set3 {B g : Nat} {w : World} {v : Value} {l : List Int} (h : Own B w v l) (hg : g < B) (x y z : Value) : Own B (((w.setCell ⟨g, 0, none⟩ x).setCell ⟨g, 1, none⟩ y).setCell ⟨g, 2, none⟩ z) v l :=
  h.grown (grownS_trans (grownS_trans grownS_setCell grownS_setCell) grownS_setCell) (fun k hk e => by have := (h.lt k hk).1; cases e; omega)

set_option maxHeartbeats 2000000 in
theorem toState_ok (u1 u2 : Value) (t b : List Int) (c : Int) (w : World) (h1 : Rd w u1 t) (h2 : Rd w u2 b) (l1 : t.length ≤ 1048576) (l2 : b.length ≤ 1048576) :
    Calls Try.prog 23 #[.agg #[u1, u2, .int .i64 c]] w (MadeSt w t b c) := by
  have H1 := Lib.hid h1; have H2 := Lib.hid h2; have L1 := Lib.hid l1; have L2 := Lib.hid l2
  have B3 : Below w.heap.size w (((w.alloc (.cells #[u1, u2, .int .i64 c] 37)).alloc (.cells #[.slice none 0 0, .slice none 0 0, .int .i64 0] 27)).alloc (.cells #[.slice none 0 0, .slice none 0 0, .int .i64 0] 27)) := Below.step (Below.step (Below.alloc1 w _) (Below.alloc1 _ _)) (Below.alloc1 _ _)
  have hA : Box3 37 (((w.alloc (.cells #[u1, u2, .int .i64 c] 37)).alloc (.cells #[.slice none 0 0, .slice none 0 0, .int .i64 0] 27)).alloc (.cells #[.slice none 0 0, .slice none 0 0, .int .i64 0] 27)) w.heap.size u1 u2 (.int .i64 c) := Box3.below (Box3.below (Box3.new _ w u1 u2 _) (Below.alloc1 _ _)) (Below.alloc1 _ _)
  have hR : Box3 27 (((w.alloc (.cells #[u1, u2, .int .i64 c] 37)).alloc (.cells #[.slice none 0 0, .slice none 0 0, .int .i64 0] 27)).alloc (.cells #[.slice none 0 0, .slice none 0 0, .int .i64 0] 27)) (w.heap.size + 1) (.slice none 0 0) (.slice none 0 0) (.int .i64 0) := by
    have h := Box3.below (Box3.new 27 (w.alloc (.cells #[u1, u2, .int .i64 c] 37)) (.slice none 0 0) (.slice none 0 0) (.int .i64 0)) (Below.alloc1 _ (.cells #[.slice none 0 0, .slice none 0 0, .int .i64 0] 27))
    rw [World.size_alloc] at h; exact h
  have hO : Box3 27 (((w.alloc (.cells #[u1, u2, .int .i64 c] 37)).alloc (.cells #[.slice none 0 0, .slice none 0 0, .int .i64 0] 27)).alloc (.cells #[.slice none 0 0, .slice none 0 0, .int .i64 0] 27)) (w.heap.size + 1 + 1) (.slice none 0 0) (.slice none 0 0) (.int .i64 0) := by
    have h := Box3.new 27 ((w.alloc (.cells #[u1, u2, .int .i64 c] 37)).alloc (.cells #[.slice none 0 0, .slice none 0 0, .int .i64 0] 27)) (.slice none 0 0) (.slice none 0 0) (.int .i64 0)
    rw [World.size_alloc, World.size_alloc] at h; exact h
  clear h1 h2 l1 l2
  go_enter Try.func23, Try.ntmps23
  go_wp2_with fail
  generalize (((w.alloc (.cells #[u1, u2, .int .i64 c] 37)).alloc (.cells #[.slice none 0 0, .slice none 0 0, .int .i64 0] 27)).alloc (.cells #[.slice none 0 0, .slice none 0 0, .int .i64 0] 27)) = W3 at B3 hA hR hO ⊢
  refine (toIntS_ok u1 t _ (H1.out.below B3) L1.out).mono ?_
  rintro e w1 ⟨v1, rfl, ho1, hb1⟩
  obtain ⟨a1, n1, c1, rfl⟩ := ho1.form'
  have hA1 := hA.below hb1
  have hR1 := hR.below hb1
  have hO1 := hO.below hb1
  have k0 := hO1.c0
  have k1 := hO1.free 0
  have hne : ∀ k, (Value.slice a1 n1 c1).ownBlock = some k → w.heap.size + 1 + 1 < k := fun k hk => by have := (ho1.lt k hk).1; have := hO.lt; omega
  have ho2 := ho1.grown (grownS_setCell (w := w1) (b := w.heap.size + 1 + 1) (i := 0) (v := .slice a1 n1 c1)) (fun k hk e => by have := hne k hk; simp at e; omega)
  have hA2 := hA1.grown (grownS_setCell (w := w1) (b := w.heap.size + 1 + 1) (i := 0) (v := .slice a1 n1 c1)) (by simp; omega)
  have hR2 := hR1.grown (grownS_setCell (w := w1) (b := w.heap.size + 1 + 1) (i := 0) (v := .slice a1 n1 c1)) (by simp)
  have hO2 := hO1.set0 (.slice a1 n1 c1)
  have B2 := (Below.step B3 hb1).setCell (p := ⟨w.heap.size + 1 + 1, 0, none⟩) (show w.heap.size ≤ w.heap.size + 1 + 1 by omega) (.slice a1 n1 c1)
  have kA := hA2.c1
  have HO := Lib.hid ho2; have HA := Lib.hid hA2; have HR := Lib.hid hR2; have HOO := Lib.hid hO2; have HB := Lib.hid B2
  have hz1 := Lib.hid hO.lt; have hz2 := Lib.hid B3.size; have hz3 := Lib.hid hb1.size
  clear hA hR hO hA1 hR1 hO1 ho1 ho2 hA2 hR2 hO2 B2 B3 hb1 hne
  go_wp2_with fail
  refine (toIntS_ok u2 b _ (H2.out.below HB.out) L2.out).mono ?_
  rintro e w2 ⟨v2, rfl, hp, hb2⟩
  obtain ⟨a2, n2, c2, rfl⟩ := hp.form'
  have hA3 := HA.out.below hb2
  have hR3 := HR.out.below hb2
  have hO3 := HOO.out.below hb2
  have k2 := hO3.c1
  have k3 := hO3.free 1
  have ho3 := HO.out.below hb2
  have sz : w.heap.size + 1 + 1 < w1.heap.size := Nat.lt_of_lt_of_le hz1.out hz3.out
  have ho4 := ho3.grown (grownS_trans (grownS_setCell (w := w2) (b := w.heap.size + 1 + 1) (i := 1) (v := .slice a2 n2 c2)) (grownS_setCell (b := w.heap.size + 1 + 1) (i := 2) (v := .int .i64 c))) (fun k hk e => by have := (HO.out.lt k hk).1; have := hz1.out; simp at e; omega)
  have hp4 := hp.grown (grownS_trans (grownS_setCell (w := w2) (b := w.heap.size + 1 + 1) (i := 1) (v := .slice a2 n2 c2)) (grownS_setCell (b := w.heap.size + 1 + 1) (i := 2) (v := .int .i64 c))) (fun k hk e => by have := (hp.lt k hk).1; simp at this e; omega)
  have hA4 := hA3.grown (grownS_setCell (w := w2) (b := w.heap.size + 1 + 1) (i := 1) (v := .slice a2 n2 c2)) (by simp; omega)
  have hR4 := hR3.grown (grownS_trans (grownS_setCell (w := w2) (b := w.heap.size + 1 + 1) (i := 1) (v := .slice a2 n2 c2)) (grownS_setCell (b := w.heap.size + 1 + 1) (i := 2) (v := .int .i64 c))) (by simp)
  have hO5 := hO3.set1 (.slice a2 n2 c2)
  have kc := hA4.c2
  have k5 := hO5.c2
  have k6 := hO5.free 2
  have hO4 := hO5.set2 (.int .i64 c)
  have m0 := hO4.c0
  have m1 := hO4.c1
  have m2 := hO4.c2
  have hap : ApartS (.slice a1 n1 c1) (.slice a2 n2 c2) := fun k hk hk' => by
    have h1 := (HO.out.lt k hk).2; have h2 := (hp.lt k hk').1; omega
  have B4 := ((Below.step HB.out hb2).setCell (p := ⟨w.heap.size + 1 + 1, 1, none⟩) (show w.heap.size ≤ w.heap.size + 1 + 1 by omega) (.slice a2 n2 c2)).setCell (p := ⟨w.heap.size + 1 + 1, 2, none⟩) (show w.heap.size ≤ w.heap.size + 1 + 1 by omega) (.int .i64 c)
  have r0 := hR4.c0
  have r1 := hR4.c1
  have r4 := hR4.c2
  have r2 := hR4.free 0
  have r3 := hR4.free 1
  have r5 := hR4.free 2
  have HO4 := Lib.hid ho4; have HP4 := Lib.hid hp4; have HR4 := Lib.hid hR4; have HAP := Lib.hid hap; have HB4 := Lib.hid B4
  clear hA3 hA4 hR3 hO3 ho3 ho4 hp4 hR4 hO4 hO5 hap B4 hb2 hp sz kA
  go_wp2_with fail
  have G2 : ∀ k, (Value.slice a1 n1 c1).ownBlock = some k → (some (w.heap.size + 1) : Option Nat) ≠ some k := fun k hk e => by have := (HO4.out.lt k hk).1; have := hz1.out; simp at e; omega
  have G3 : ∀ k, (Value.slice a2 n2 c2).ownBlock = some k → (some (w.heap.size + 1) : Option Nat) ≠ some k := fun k hk e => by have h5 : w1.heap.size ≤ k := (by simpa using (HP4.out.lt k hk).1); have := hz1.out; have := hz3.out; simp at e; omega
  refine bodyPost_ret (results_toState _ _ (w.heap.size + 1) _ _ _ (((HR4.out.set0 _).set1 _).set2 _) rfl) rfl ⟨_, _, rfl, ?_, ?_, HAP.out, ?_⟩
  · exact (HO4.out.grown (grownS_trans (grownS_trans grownS_setCell grownS_setCell) grownS_setCell) G2).mono hz2.out
  · exact (HP4.out.grown (grownS_trans (grownS_trans grownS_setCell grownS_setCell) grownS_setCell) G3).mono (by have := hz2.out; have := hz3.out; simp; omega)
  · exact ((HB4.out.setCell (p := ⟨w.heap.size + 1, 0, none⟩) (Nat.le_succ _) _).setCell (p := ⟨w.heap.size + 1, 1, none⟩) (Nat.le_succ _) _).setCell (p := ⟨w.heap.size + 1, 2, none⟩) (Nat.le_succ _) _

end Go.Proofs.Ytllhdmpnjcemkac

namespace Go.Proofs.Ytllhdmpnjcemkac
open Go.RowKit
set_option linter.unusedSimpArgs false
set_option linter.unusedVariables false

theorem held6_start {T T' : TypeId} {w : World} {b b' : Nat} {u1 u2 u3 v1 v2 v3 : Value} (h : Box3 T w b u1 u2 u3) (h' : Box3 T' w b' v1 v2 v3) :
    Hid (Below w.heap.size w w.drew) ∧ w.drew.cell? ⟨b, 0, none⟩ = some u1 ∧ w.drew.cell? ⟨b, 1, none⟩ = some u2 ∧ w.drew.cell? ⟨b, 2, none⟩ = some u3 ∧ w.drew.cell? ⟨b', 0, none⟩ = some v1 ∧ w.drew.cell? ⟨b', 1, none⟩ = some v2 ∧ w.drew.cell? ⟨b', 2, none⟩ = some v3 :=
  ⟨Below.drew (Below.refl _ _), h.c0, h.c1, h.c2, h'.c0, h'.c1, h'.c2⟩
theorem held6_keep {w w1 w2 : World} {a b c d e f : Addr} {x y z u v t : Value} (h : Hid (Below w.heap.size w w1) ∧ w1.cell? a = some x ∧ w1.cell? b = some y ∧ w1.cell? c = some z ∧ w1.cell? d = some u ∧ w1.cell? e = some v ∧ w1.cell? f = some t) (hb : Below w1.heap.size w1 w2) :
    Hid (Below w.heap.size w w2) ∧ w2.cell? a = some x ∧ w2.cell? b = some y ∧ w2.cell? c = some z ∧ w2.cell? d = some u ∧ w2.cell? e = some v ∧ w2.cell? f = some t :=
  ⟨Below.step h.1.out hb, (hb.cell (World.block_lt_of_cell? w1 _ h.2.1)).trans h.2.1, (hb.cell (World.block_lt_of_cell? w1 _ h.2.2.1)).trans h.2.2.1, (hb.cell (World.block_lt_of_cell? w1 _ h.2.2.2.1)).trans h.2.2.2.1, (hb.cell (World.block_lt_of_cell? w1 _ h.2.2.2.2.1)).trans h.2.2.2.2.1, (hb.cell (World.block_lt_of_cell? w1 _ h.2.2.2.2.2.1)).trans h.2.2.2.2.2.1, (hb.cell (World.block_lt_of_cell? w1 _ h.2.2.2.2.2.2)).trans h.2.2.2.2.2.2⟩
theorem held6_out {w w1 : World} {a b c d e f : Addr} {x y z u v t : Value} (h : Hid (Below w.heap.size w w1) ∧ w1.cell? a = some x ∧ w1.cell? b = some y ∧ w1.cell? c = some z ∧ w1.cell? d = some u ∧ w1.cell? e = some v ∧ w1.cell? f = some t) : Below w.heap.size w w1 := h.1

/-- both lists marked -/
def MarkedSt (lo hi : Nat) (w : World) (v1 v2 : Value) (k : Int) (n1 n2 : Nat) (e : Ending) (w' : World) : Prop :=
  e = .returned (.int .i64 (k + n1 + n2)) ∧ Own lo w' v1 (marks k n1) ∧ Own lo w' v2 (marks (k + n1) n2) ∧ Within lo hi w w'

set_option maxHeartbeats 1000000 in
theorem markState_any (lo hi : Nat) (v1 v2 : Value) (t b : List Int) (c : Int) (k : Int) (w : World) (h1 : Own lo w v1 t) (h2 : Own lo w v2 b) (i1 : In v1 lo hi) (i2 : In v2 lo hi) (hh : hi ≤ w.heap.size) (ap : ApartS v1 v2) (hk0 : 0 ≤ k) (hk1 : k ≤ 1000000000) (l1 : t.length ≤ 1000000000) (l2 : b.length ≤ 1000000000) :
    Calls Try.prog 19 #[.agg #[v1, v2, .int .i64 c], .int .i64 k] w (MarkedSt lo hi w v1 v2 k t.length b.length) := by
  have hA := Box3.new 27 w v1 v2 (.int .i64 c)
  have B1 : Below w.heap.size w (w.alloc (.cells #[v1, v2, .int .i64 c] 27)) := Below.alloc1 w _
  have k0 := hA.c0; have k1 := hA.c1
  have HA := Lib.hid hA; have H1 := Lib.hid (h1.below B1); have H2 := Lib.hid (h2.below B1); have I1 := Lib.hid i1; have I2 := Lib.hid i2; have AP := Lib.hid ap; have HB := Lib.hid B1
  have W1 : Within lo hi w (w.alloc (.cells #[v1, v2, .int .i64 c] 27)) := ⟨rfl, rfl, rfl, by simp, fun k hk _ => B1.block k hk⟩
  have HW := Lib.hid W1; have L1 := Lib.hid l1; have L2 := Lib.hid l2; have HH := Lib.hid hh
  obtain ⟨n1, hn1⟩ : ∃ n, n = t.length := ⟨_, rfl⟩
  have N1 := Lib.hid hn1
  have hb1 : n1 ≤ 1000000000 := by omega
  rw [← hn1]
  clear h1 h2 i1 i2 ap hA B1 W1 hn1 l1 l2 hh
  go_enter Try.func19, Try.ntmps19
  go_wp2_with fail
  refine (markIntS_any lo v1 t k _ H1.out hk0 (by omega) L1.out).mono ?_
  rintro e w1 ⟨rfl, ho1, hg1⟩
  rw [← N1.out] at ho1 ⊢
  have hA1 := HA.out.grown hg1 (fun e => by have := (I1.out _ e.symm).2; have := HH.out; omega)
  have m1 := hA1.c1
  have h21 := H2.out.grown hg1 (fun k hk e => AP.out k e hk)
  have HO := Lib.hid ho1; have HP := Lib.hid h21; have HW1 := Lib.hid (HW.out.trans (Within.of_grown hg1 I1.out))
  clear ho1 hA1 h21 hg1
  go_wp2_with fail
  refine (markIntS_any lo v2 b (k + n1) _ HP.out (by omega) (by omega) L2.out).mono ?_
  rintro e w2 ⟨rfl, ho2, hg2⟩
  have h12 := HO.out.grown hg2 (fun k hk e => AP.out k hk e)
  have HO2 := Lib.hid h12; have HP2 := Lib.hid ho2; have HW2 := Lib.hid (HW1.out.trans (Within.of_grown hg2 I2.out))
  clear h12 ho2 hg2
  go_wp2
  go_ret
  exact ⟨rfl, HO2.out, HP2.out, HW2.out⟩

set_option maxHeartbeats 1000000 in
theorem heldState_ok (v1 v2 : Value) (c : Int) (k : Int) (n1 n2 : Nat) (w : World) (h1 : Rd w v1 (marks k n1)) (h2 : Rd w v2 (marks (k + n1) n2)) (hk0 : 0 ≤ k) (hk1 : k ≤ 1000000000) (l1 : n1 ≤ 1000000000) (l2 : n2 ≤ 1000000000) :
    Calls Try.prog 20 #[.agg #[v1, v2, .int .i64 c], .int .i64 k] w fun e w' => e = .returned (.int .i64 (k + n1 + n2)) ∧ Below w.heap.size w w' := by
  have hA := Box3.new 27 w v1 v2 (.int .i64 c)
  have B1 : Below w.heap.size w (w.alloc (.cells #[v1, v2, .int .i64 c] 27)) := Below.alloc1 w _
  have k0 := hA.c0; have k1 := hA.c1
  have HA := Lib.hid hA; have H1 := Lib.hid (h1.below B1); have H2 := Lib.hid (h2.below B1); have HB := Lib.hid B1
  clear h1 h2 hA B1
  go_enter Try.func20, Try.ntmps20
  go_wp2_with fail
  refine (heldIntS_ok v1 k n1 _ H1.out hk0 (by omega) l1).mono ?_
  rintro e w1 ⟨rfl, hb1⟩
  have m1 := (HA.out.below hb1).c1
  have HB1 := Lib.hid (Below.step HB.out hb1); have H21 := Lib.hid (H2.out.below hb1)
  clear hb1
  go_wp2_with fail
  refine (heldIntS_ok v2 (k + n1) n2 _ H21.out (by omega) (by omega) l2).mono ?_
  rintro e w2 ⟨rfl, hb2⟩
  have HB2 := Lib.hid (Below.step HB1.out hb2)
  clear hb2
  go_wp2
  go_ret
  exact ⟨rfl, HB2.out⟩

end Go.Proofs.Ytllhdmpnjcemkac
