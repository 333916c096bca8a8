/- Pairs of lists in a struct: what they read as, and the laws' own helpers on them. -/
import Derived.Test.YteeoepbbocdchaaOwn
namespace Go.Proofs.Yteeoepbbocdchaa
open Go.RowKit
set_option linter.unusedSimpArgs false
set_option linter.unusedVariables false

/-- a struct of two slices in a variable -/
def Box2 (T : TypeId) (w : World) (b : Nat) (v1 v2 : Value) : Prop := w.heap[b]? = some (.cells #[v1, v2] T (0, 0))
theorem Box2.below {T : TypeId} {w w' : World} {b : Nat} {v1 v2 : Value} (h : Box2 T w b v1 v2) (hb : Below w.heap.size w w') : Box2 T w' b v1 v2 := (hb.block b (Array.getElem?_eq_some_iff.1 h).1).trans h
theorem Box2.grown {T : TypeId} {w w' : World} {b : Nat} {v1 v2 : Value} {row : Option Nat} (h : Box2 T w b v1 v2) (hg : w.grownBy w' row) (hne : some b ≠ row) : Box2 T w' b v1 v2 := (hg.block b (Array.getElem?_eq_some_iff.1 h).1 hne).trans h
theorem Box2.lt {T : TypeId} {w : World} {b : Nat} {v1 v2 : Value} (h : Box2 T w b v1 v2) : b < w.heap.size := (Array.getElem?_eq_some_iff.1 h).1
theorem Box2.c0 {T : TypeId} {w : World} {b : Nat} {v1 v2 : Value} (h : Box2 T w b v1 v2) : w.cell? ⟨b, 0, none⟩ = some v1 := by rw [cell_of_row w b _ _ _ _ h]; rfl
theorem Box2.c1 {T : TypeId} {w : World} {b : Nat} {v1 v2 : Value} (h : Box2 T w b v1 v2) : w.cell? ⟨b, 1, none⟩ = some v2 := by rw [cell_of_row w b _ _ _ _ h]; rfl
theorem Box2.free {T : TypeId} {w : World} {b : Nat} {v1 v2 : Value} (h : Box2 T w b v1 v2) (k : Nat) : w.frozen? ⟨b, k, none⟩ = false := frozen_of_row w b k _ _ h
theorem Box2.set0 {T : TypeId} {w : World} {b : Nat} {v1 v2 : Value} (h : Box2 T w b v1 v2) (x : Value) : Box2 T (w.setCell ⟨b, 0, none⟩ x) b x v2 := heap_setCell_same w b 0 _ _ x h
theorem Box2.set1 {T : TypeId} {w : World} {b : Nat} {v1 v2 : Value} (h : Box2 T w b v1 v2) (x : Value) : Box2 T (w.setCell ⟨b, 1, none⟩ x) b v1 x := heap_setCell_same w b 1 _ _ x h
theorem Box2.new (T : TypeId) (w : World) (v1 v2 : Value) : Box2 T (w.alloc (.cells #[v1, v2] T)) w.heap.size v1 v2 := heap_alloc_new w _
theorem Box2.new_drew (T : TypeId) (w : World) (v1 v2 : Value) : Box2 T (w.alloc (.cells #[v1, v2] T)).drew w.heap.size v1 v2 := heap_alloc_new w _
theorem cells_new (w : World) (v1 v2 : Value) (T : TypeId) : (w.alloc (.cells #[v1, v2] T)).cell? ⟨w.heap.size, 0, none⟩ = some v1 ∧ (w.alloc (.cells #[v1, v2] T)).cell? ⟨w.heap.size, 1, none⟩ = some v2 := ⟨(Box2.new T w v1 v2).c0, (Box2.new T w v1 v2).c1⟩

theorem Box2.within {T : TypeId} {lo hi : Nat} {w w' : World} {b : Nat} {v1 v2 : Value} (h : Box2 T w b v1 v2) (hw : Within lo hi w w') (ha : b < lo ∨ hi ≤ b) : Box2 T w' b v1 v2 := (hw.block b (Array.getElem?_eq_some_iff.1 h).1 ha).trans h
/-- two structs held through a region that draws its order -/
theorem held_start {T T' : TypeId} {w : World} {b b' : Nat} {u1 u2 v1 v2 : Value} (h : Box2 T w b u1 u2) (h' : Box2 T' w b' v1 v2) :
    Hid (Below w.heap.size w w.drew) ∧ w.drew.cell? ⟨b, 0, none⟩ = some u1 ∧ w.drew.cell? ⟨b, 1, none⟩ = some u2 ∧ w.drew.cell? ⟨b', 0, none⟩ = some v1 ∧ w.drew.cell? ⟨b', 1, none⟩ = some v2 :=
  ⟨Below.drew (Below.refl _ _), h.c0, h.c1, h'.c0, h'.c1⟩
theorem held_keep {w w1 w2 : World} {b b' : Nat} {u1 u2 v1 v2 : Value} (h : Hid (Below w.heap.size w w1) ∧ w1.cell? ⟨b, 0, none⟩ = some u1 ∧ w1.cell? ⟨b, 1, none⟩ = some u2 ∧ w1.cell? ⟨b', 0, none⟩ = some v1 ∧ w1.cell? ⟨b', 1, none⟩ = some v2) (hb : Below w1.heap.size w1 w2) :
    Hid (Below w.heap.size w w2) ∧ w2.cell? ⟨b, 0, none⟩ = some u1 ∧ w2.cell? ⟨b, 1, none⟩ = some u2 ∧ w2.cell? ⟨b', 0, none⟩ = some v1 ∧ w2.cell? ⟨b', 1, none⟩ = some v2 := by
  have k : ∀ (a : Addr) v, w1.cell? a = some v → w2.cell? a = some v := fun a v hv => (hb.cell (World.block_lt_of_cell? w1 _ hv)).trans hv
  exact ⟨h.1.out.trans (hb.mono h.1.out.size), k _ _ h.2.1, k _ _ h.2.2.1, k _ _ h.2.2.2.1, k _ _ h.2.2.2.2⟩
theorem held_out {w w1 : World} {b b' : Nat} {u1 u2 v1 v2 : Value} (h : Hid (Below w.heap.size w w1) ∧ w1.cell? ⟨b, 0, none⟩ = some u1 ∧ w1.cell? ⟨b, 1, none⟩ = some u2 ∧ w1.cell? ⟨b', 0, none⟩ = some v1 ∧ w1.cell? ⟨b', 1, none⟩ = some v2) : Below w.heap.size w w1 := h.1

theorem held_alloc {w w1 : World} {b b' : Nat} {u1 u2 v1 v2 : Value} (h : Hid (Below w.heap.size w w1) ∧ w1.cell? ⟨b, 0, none⟩ = some u1 ∧ w1.cell? ⟨b, 1, none⟩ = some u2 ∧ w1.cell? ⟨b', 0, none⟩ = some v1 ∧ w1.cell? ⟨b', 1, none⟩ = some v2) (o : Obj) :
    Hid (Below w.heap.size w (w1.alloc o)) ∧ (w1.alloc o).cell? ⟨b, 0, none⟩ = some u1 ∧ (w1.alloc o).cell? ⟨b, 1, none⟩ = some u2 ∧ (w1.alloc o).cell? ⟨b', 0, none⟩ = some v1 ∧ (w1.alloc o).cell? ⟨b', 1, none⟩ = some v2 := held_keep h (Below.alloc1 w1 o)
theorem held_two {T T' : TypeId} {w w1 : World} {b b' : Nat} {u1 u2 v1 v2 : Value} (h : Box2 T w b u1 u2) (h' : Box2 T' w b' v1 v2) (hb : Below w.heap.size w w1) :
    Hid (Below w.heap.size w w1) ∧ w1.cell? ⟨b, 0, none⟩ = some u1 ∧ w1.cell? ⟨b, 1, none⟩ = some u2 ∧ w1.cell? ⟨b', 0, none⟩ = some v1 ∧ w1.cell? ⟨b', 1, none⟩ = some v2 := ⟨hb, (h.below hb).c0, (h.below hb).c1, (h'.below hb).c0, (h'.below hb).c1⟩

def ApartV (u v : Value) : Prop := ∀ k, u.ownBlock = some k → v.ownBlock ≠ some k
theorem ApartV.nil (v : Value) : ApartV (.slice none 0 0) v := fun k hk => by cases hk

theorem alloc_lt (w : World) (o : Obj) : w.heap.size < (w.alloc o).heap.size := by simp
theorem Own.set2 {B g : Nat} {w : World} {v : Value} {l : List Int} (h : Own B w v l) (hg : g < B) (x y : Value) : Own B ((w.setCell ⟨g, 0, none⟩ x).setCell ⟨g, 1, none⟩ y) v l :=
  h.grown (grown_trans grown_setCell grown_setCell) (fun k hk e => by have := (h.lt k hk).1; cases e; omega)
/-- a pair of lists that a call gave, put into a new variable -/
theorem met_new {T : TypeId} {lo B : Nat} {w2 wq3 : World} {v1 v2 : Value} {r1 r2 : List Int} (hB : Below lo w2 wq3) (hlo : lo = w2.heap.size) (hb : lo ≤ B) (h1 : Own B wq3 v1 r1) (h2 : Own B wq3 v2 r2) (ha : ApartV v1 v2) :
    Hid (Box2 T (wq3.alloc (.cells #[v1, v2] T)) wq3.heap.size v1 v2 ∧ (lo ≤ wq3.heap.size ∧ wq3.heap.size < (wq3.alloc (.cells #[v1, v2] T)).heap.size) ∧ Own lo (wq3.alloc (.cells #[v1, v2] T)) v1 r1 ∧ Own lo (wq3.alloc (.cells #[v1, v2] T)) v2 r2 ∧ ApartV v1 v2) ∧ Hid (Below lo w2 (wq3.alloc (.cells #[v1, v2] T))) := by
  subst hlo
  have a1 := (Own.below h1 (Below.alloc1 wq3 (.cells #[v1, v2] T))).mono hb
  have a2 := (Own.below h2 (Below.alloc1 wq3 (.cells #[v1, v2] T))).mono hb
  have a3 : Below w2.heap.size w2 (wq3.alloc (.cells #[v1, v2] T)) := Below.step hB (Below.alloc1 _ _)
  exact ⟨⟨Box2.new T wq3 v1 v2, ⟨hB.size, alloc_lt _ _⟩, a1, a2, ha⟩, a3⟩
/-- a pair of lists that a call gave, put into a variable that was there -/
theorem met_set {T : TypeId} {lo B g : Nat} {w2 wq3 : World} {v1 v2 u1 u2 : Value} {r1 r2 : List Int} (hx : Box2 T wq3 g u1 u2) (hg : lo ≤ g) (hgB : g < B) (hB : Below lo w2 wq3) (hlo : lo = w2.heap.size) (hb : lo ≤ B) (h1 : Own B wq3 v1 r1) (h2 : Own B wq3 v2 r2) (ha : ApartV v1 v2) :
    Hid (Box2 T ((wq3.setCell ⟨g, 0, none⟩ v1).setCell ⟨g, 1, none⟩ v2) g v1 v2 ∧ (lo ≤ g ∧ g < ((wq3.setCell ⟨g, 0, none⟩ v1).setCell ⟨g, 1, none⟩ v2).heap.size) ∧ Own lo ((wq3.setCell ⟨g, 0, none⟩ v1).setCell ⟨g, 1, none⟩ v2) v1 r1 ∧ Own lo ((wq3.setCell ⟨g, 0, none⟩ v1).setCell ⟨g, 1, none⟩ v2) v2 r2 ∧ ApartV v1 v2) ∧ Hid (Below lo w2 ((wq3.setCell ⟨g, 0, none⟩ v1).setCell ⟨g, 1, none⟩ v2)) := by
  have b := (hx.set0 v1).set1 v2
  have a3 : Below lo w2 ((wq3.setCell ⟨g, 0, none⟩ v1).setCell ⟨g, 1, none⟩ v2) := (hB.setCell (p := ⟨g, 0, none⟩) hg v1).setCell (p := ⟨g, 1, none⟩) hg v2
  exact ⟨⟨b, ⟨hg, b.lt⟩, (h1.set2 hgB v1 v2).mono hb, (h2.set2 hgB v1 v2).mono hb, ha⟩, a3⟩

theorem mea_info : (Try.prog.info? 42).map (·.size) = some 2 := by kernel_rfl
/-- two lists in a struct that a call made itself -/
def MadeM (w : World) (t b : List Int) (e : Ending) (w' : World) : Prop := ∃ v1 v2, e = .returned (.agg #[v1, v2]) ∧ Own w.heap.size w' v1 t ∧ Own w.heap.size w' v2 b ∧ ApartV v1 v2 ∧ Below w.heap.size w w'
def GivesM (w : World) (t b : List Int) (ok : Bool) (e : Ending) (w' : World) : Prop := ∃ v1 v2, e = .returned (.tuple #[.agg #[v1, v2], .bool ok]) ∧ Own w.heap.size w' v1 t ∧ Own w.heap.size w' v2 b ∧ ApartV v1 v2 ∧ Below w.heap.size w w'

theorem run_loadMea (w : World) (g : Nat) (v1 v2 : Value) (hg : Box2 42 w g v1 v2) : (loadVar 42 ⟨g, 0, none⟩).run Try.prog w = .ok (.agg #[v1, v2]) w :=
  run_loadVar_row w g _ _ #[v1, v2] _ _ hg Try.underlying42 rfl (by rw [mea_info]; rfl)

theorem results_toMeander (tmps : Array Value) (w : World) (g : Nat) (v1 v2 : Value) (hg : Box2 42 w g v1 v2) (h2 : tmps.getD 2 undef = .pointer (some ⟨g, 0, none⟩)) :
    (results Try.f25 tmps).run Try.prog w = .ok (.agg #[v1, v2]) w :=
  results_cell_row (by kernel_rfl) tmps w g _ #[v1, v2] _ _ h2 hg Try.underlying42 rfl (by rw [mea_info]; rfl)

theorem szMeander_ok (a1 a2 : Option Addr) (n1 n2 c1 c2 : Nat) (left : Int) (w : World) (h0 : 0 ≤ left) (h1 : left ≤ 1048576) (hn1 : n1 ≤ 9223372036854775807) (hn2 : n2 ≤ 9223372036854775807) (h : (n1 : Int) + n2 ≤ left) :
    Calls Try.prog 23 #[.agg #[.slice a1 n1 c1, .slice a2 n2 c2], .int .i64 left] w fun e w' => e = .returned (.int .i64 (left - n1 - n2)) ∧ Below w.heap.size w w' := by
  obtain ⟨k0, k1⟩ := cells_new w (.slice a1 n1 c1) (.slice a2 n2 c2) 37
  go_enter Try.func23, Try.ntmps23
  go_wp2
  go_ret
  exact ⟨rfl, Below.alloc1 _ _⟩
theorem szMeander_no (a1 a2 : Option Addr) (n1 n2 c1 c2 : Nat) (left : Int) (w : World) (h0 : 0 ≤ left) (h1 : left ≤ 1048576) (hn1 : n1 ≤ 9223372036854775807) (hn2 : n2 ≤ 9223372036854775807) (h : left < (n1 : Int) + n2) :
    Calls Try.prog 23 #[.agg #[.slice a1 n1 c1, .slice a2 n2 c2], .int .i64 left] w fun e w' => e = .returned (.int .i64 (-1)) ∧ Below w.heap.size w w' := by
  obtain ⟨k0, k1⟩ := cells_new w (.slice a1 n1 c1) (.slice a2 n2 c2) 37
  by_cases h2 : left < (n1 : Int)
  · go_enter Try.func23, Try.ntmps23
    go_wp2
    go_ret
    exact ⟨rfl, Below.alloc1 _ _⟩
  · go_enter Try.func23, Try.ntmps23
    go_wp2
    go_ret
    exact ⟨rfl, Below.alloc1 _ _⟩

set_option maxHeartbeats 1000000 in
theorem toMeander_ok (u1 u2 : Value) (t b : List Int) (w : World) (h1 : Rd w u1 t) (h2 : Rd w u2 b) (l1 : t.length ≤ 1048576) (l2 : b.length ≤ 1048576) :
    Calls Try.prog 25 #[.agg #[u1, u2]] w (MadeM w t b) := by
  have H1 := Lib.hid h1; have H2 := Lib.hid h2; have L1 := Lib.hid l1; have L2 := Lib.hid l2
  have B3 : Below w.heap.size w (((w.alloc (.cells #[u1, u2] 37)).alloc (.cells #[.slice none 0 0, .slice none 0 0] 42)).alloc (.cells #[.slice none 0 0, .slice none 0 0] 42)) := Below.step (Below.step (Below.alloc1 w _) (Below.alloc1 _ _)) (Below.alloc1 _ _)
  have hA : Box2 37 (((w.alloc (.cells #[u1, u2] 37)).alloc (.cells #[.slice none 0 0, .slice none 0 0] 42)).alloc (.cells #[.slice none 0 0, .slice none 0 0] 42)) w.heap.size u1 u2 := Box2.below (Box2.below (Box2.new _ w u1 u2) (Below.alloc1 _ _)) (Below.alloc1 _ _)
  have hR : Box2 42 (((w.alloc (.cells #[u1, u2] 37)).alloc (.cells #[.slice none 0 0, .slice none 0 0] 42)).alloc (.cells #[.slice none 0 0, .slice none 0 0] 42)) (w.heap.size + 1) (.slice none 0 0) (.slice none 0 0) := by
    have h := Box2.below (Box2.new 42 (w.alloc (.cells #[u1, u2] 37)) (.slice none 0 0) (.slice none 0 0)) (Below.alloc1 _ (.cells #[.slice none 0 0, .slice none 0 0] 42))
    rw [World.size_alloc] at h; exact h
  have hO : Box2 42 (((w.alloc (.cells #[u1, u2] 37)).alloc (.cells #[.slice none 0 0, .slice none 0 0] 42)).alloc (.cells #[.slice none 0 0, .slice none 0 0] 42)) (w.heap.size + 1 + 1) (.slice none 0 0) (.slice none 0 0) := by
    have h := Box2.new 42 ((w.alloc (.cells #[u1, u2] 37)).alloc (.cells #[.slice none 0 0, .slice none 0 0] 42)) (.slice none 0 0) (.slice none 0 0)
    rw [World.size_alloc, World.size_alloc] at h; exact h
  clear h1 h2 l1 l2
  go_enter Try.func25, Try.ntmps25
  go_wp2_with fail
  generalize (((w.alloc (.cells #[u1, u2] 37)).alloc (.cells #[.slice none 0 0, .slice none 0 0] 42)).alloc (.cells #[.slice none 0 0, .slice none 0 0] 42)) = W3 at B3 hA hR hO ⊢
  refine (toIntS_ok u1 t _ (H1.out.below B3) L1.out).mono ?_
  rintro e w1 ⟨v1, rfl, ho1, hb1⟩
  obtain ⟨a1, n1, c1, rfl⟩ := ho1.form'
  have hA1 := hA.below hb1
  have hR1 := hR.below hb1
  have hO1 := hO.below hb1
  have k0 := hO1.c0
  have k1 := hO1.free 0
  have hne : ∀ k, (Value.slice a1 n1 c1).ownBlock = some k → w.heap.size + 1 + 1 < k := fun k hk => by have := (ho1.lt k hk).1; have := hO.lt; omega
  have ho2 := ho1.grown (grown_setCell (w := w1) (b := w.heap.size + 1 + 1) (i := 0) (v := .slice a1 n1 c1)) (fun k hk e => by have := hne k hk; simp at e; omega)
  have hA2 := hA1.grown (grown_setCell (w := w1) (b := w.heap.size + 1 + 1) (i := 0) (v := .slice a1 n1 c1)) (by simp; omega)
  have hR2 := hR1.grown (grown_setCell (w := w1) (b := w.heap.size + 1 + 1) (i := 0) (v := .slice a1 n1 c1)) (by simp)
  have hO2 := hO1.set0 (.slice a1 n1 c1)
  have B2 := (Below.step B3 hb1).setCell (p := ⟨w.heap.size + 1 + 1, 0, none⟩) (show w.heap.size ≤ w.heap.size + 1 + 1 by omega) (.slice a1 n1 c1)
  have kA := hA2.c1
  have HO := Lib.hid ho2; have HA := Lib.hid hA2; have HR := Lib.hid hR2; have HOO := Lib.hid hO2; have HB := Lib.hid B2
  have hz1 := Lib.hid hO.lt; have hz2 := Lib.hid B3.size; have hz3 := Lib.hid hb1.size
  clear hA hR hO hA1 hR1 hO1 ho1 ho2 hA2 hR2 hO2 B2 B3 hb1 hne
  go_wp2_with fail
  refine (toIntS_ok u2 b _ (H2.out.below HB.out) L2.out).mono ?_
  rintro e w2 ⟨v2, rfl, hp, hb2⟩
  obtain ⟨a2, n2, c2, rfl⟩ := hp.form'
  have hR3 := HR.out.below hb2
  have hO3 := HOO.out.below hb2
  have k2 := hO3.c1
  have k3 := hO3.free 1
  have ho3 := HO.out.below hb2
  have sz : w.heap.size + 1 + 1 < w1.heap.size := Nat.lt_of_lt_of_le hz1.out hz3.out
  have ho4 := ho3.grown (grown_setCell (w := w2) (b := w.heap.size + 1 + 1) (i := 1) (v := .slice a2 n2 c2)) (fun k hk e => by have := (HO.out.lt k hk).1; have := hz1.out; simp at e; omega)
  have hp4 := hp.grown (grown_setCell (w := w2) (b := w.heap.size + 1 + 1) (i := 1) (v := .slice a2 n2 c2)) (fun k hk e => by have := (hp.lt k hk).1; simp at this e; omega)
  have hR4 := hR3.grown (grown_setCell (w := w2) (b := w.heap.size + 1 + 1) (i := 1) (v := .slice a2 n2 c2)) (by simp)
  have hO4 := hO3.set1 (.slice a2 n2 c2)
  have m0 := hO4.c0
  have m1 := hO4.c1
  have hap : ApartV (.slice a1 n1 c1) (.slice a2 n2 c2) := fun k hk hk' => by
    have h1 := (HO.out.lt k hk).2; have h2 := (hp.lt k hk').1; omega
  have B4 := (Below.step HB.out hb2).setCell (p := ⟨w.heap.size + 1 + 1, 1, none⟩) (show w.heap.size ≤ w.heap.size + 1 + 1 by omega) (.slice a2 n2 c2)
  have r0 := hR4.c0
  have r1 := hR4.c1
  have r2 := hR4.free 0
  have r3 := hR4.free 1
  have HO4 := Lib.hid ho4; have HP4 := Lib.hid hp4; have HR4 := Lib.hid hR4; have HAP := Lib.hid hap; have HB4 := Lib.hid B4
  clear hR3 hO3 ho3 ho4 hp4 hR4 hO4 hap B4 hb2 hp sz kA
  go_wp2_with fail
  have G2 : ∀ k, (Value.slice a1 n1 c1).ownBlock = some k → (some (w.heap.size + 1) : Option Nat) ≠ some k := fun k hk e => by have := (HO4.out.lt k hk).1; have := hz1.out; simp at e; omega
  have G3 : ∀ k, (Value.slice a2 n2 c2).ownBlock = some k → (some (w.heap.size + 1) : Option Nat) ≠ some k := fun k hk e => by have h5 : w1.heap.size ≤ k := (by simpa using (HP4.out.lt k hk).1); have := hz1.out; have := hz3.out; simp at e; omega
  refine bodyPost_ret (results_toMeander _ _ (w.heap.size + 1) _ _ ((HR4.out.set0 _).set1 _) rfl) rfl ⟨_, _, rfl, ?_, ?_, HAP.out, ?_⟩
  · exact (HO4.out.grown (grown_trans grown_setCell grown_setCell) G2).mono hz2.out
  · exact (HP4.out.grown (grown_trans grown_setCell grown_setCell) G3).mono (by have := hz2.out; have := hz3.out; simp; omega)
  · exact (HB4.out.setCell (p := ⟨w.heap.size + 1, 0, none⟩) (Nat.le_succ _) _).setCell (p := ⟨w.heap.size + 1, 1, none⟩) (Nat.le_succ _) _

set_option maxHeartbeats 1000000 in
theorem eqMeander_ok (u1 u2 v1 v2 : Value) (t b : List Int) (w : World) (h1 : Rd w u1 t) (h2 : Rd w u2 b) (g1 : Rd w v1 t) (g2 : Rd w v2 b) :
    Calls Try.prog 28 #[.agg #[u1, u2], .agg #[v1, v2]] w (Good w) := by
  have B2 : Below w.heap.size w ((w.alloc (.cells #[u1, u2] 42)).alloc (.cells #[v1, v2] 42)) := Below.step (Below.alloc1 w _) (Below.alloc1 _ _)
  have hA : Box2 42 ((w.alloc (.cells #[u1, u2] 42)).alloc (.cells #[v1, v2] 42)) w.heap.size u1 u2 := Box2.below (Box2.new _ w u1 u2) (Below.alloc1 _ _)
  have hC : Box2 42 ((w.alloc (.cells #[u1, u2] 42)).alloc (.cells #[v1, v2] 42)) (w.heap.size + 1) v1 v2 := by
    have h := Box2.new 42 (w.alloc (.cells #[u1, u2] 42)) v1 v2
    rw [World.size_alloc] at h; exact h
  have k0 := hA.c0; have k1 := hA.c1; have k2 := hC.c0; have k3 := hC.c1
  have H1 := Lib.hid h1; have H2 := Lib.hid h2; have G1 := Lib.hid g1; have G2 := Lib.hid g2; have HA := Lib.hid hA; have HC := Lib.hid hC; have HB := Lib.hid B2
  clear h1 h2 g1 g2 hA hC B2
  go_enter Try.func28, Try.ntmps28
  go_wp2_with fail
  refine (eqIntS_ok _ _ t _ (H1.out.below HB.out) (G1.out.below HB.out)).mono ?_
  rintro e w1 ⟨rfl, hb1⟩
  have m0 := (HA.out.below hb1).c0; have m1 := (HA.out.below hb1).c1; have m2 := (HC.out.below hb1).c0; have m3 := (HC.out.below hb1).c1
  have HB1 := Lib.hid (Below.step HB.out hb1)
  clear hb1
  go_wp2_with fail
  refine (eqIntS_ok _ _ b _ (H2.out.below HB1.out) (G2.out.below HB1.out)).mono ?_
  rintro e w2 ⟨rfl, hb2⟩
  have HB2 := Lib.hid (Below.step HB1.out hb2)
  clear hb2
  go_wp2
  go_ret
  exact ⟨rfl, HB2.out⟩

/-- both lists marked -/
def MarkedM (lo hi : Nat) (w : World) (v1 v2 : Value) (k : Int) (n1 n2 : Nat) (e : Ending) (w' : World) : Prop :=
  e = .returned (.int .i64 (k + n1 + n2)) ∧ Own lo w' v1 (marks k n1) ∧ Own lo w' v2 (marks (k + n1) n2) ∧ Within lo hi w w'

set_option maxHeartbeats 1000000 in
theorem markMeander_any (lo hi : Nat) (v1 v2 : Value) (t b : List Int) (k : Int) (w : World) (h1 : Own lo w v1 t) (h2 : Own lo w v2 b) (i1 : In v1 lo hi) (i2 : In v2 lo hi) (hh : hi ≤ w.heap.size) (ap : ApartV v1 v2) (hk0 : 0 ≤ k) (hk1 : k ≤ 1000000000) (l1 : t.length ≤ 1000000000) (l2 : b.length ≤ 1000000000) :
    Calls Try.prog 29 #[.agg #[v1, v2], .int .i64 k] w (MarkedM lo hi w v1 v2 k t.length b.length) := by
  have hA := Box2.new 42 w v1 v2
  have B1 : Below w.heap.size w (w.alloc (.cells #[v1, v2] 42)) := Below.alloc1 w _
  have k0 := hA.c0; have k1 := hA.c1
  have HA := Lib.hid hA; have H1 := Lib.hid (h1.below B1); have H2 := Lib.hid (h2.below B1); have I1 := Lib.hid i1; have I2 := Lib.hid i2; have AP := Lib.hid ap; have HB := Lib.hid B1
  have W1 : Within lo hi w (w.alloc (.cells #[v1, v2] 42)) := ⟨rfl, rfl, rfl, by simp, fun k hk _ => B1.block k hk⟩
  have HW := Lib.hid W1; have L1 := Lib.hid l1; have L2 := Lib.hid l2; have HH := Lib.hid hh
  obtain ⟨n1, hn1⟩ : ∃ n, n = t.length := ⟨_, rfl⟩
  have N1 := Lib.hid hn1
  have hb1 : n1 ≤ 1000000000 := by omega
  rw [← hn1]
  clear h1 h2 i1 i2 ap hA B1 W1 hn1 l1 l2 hh
  go_enter Try.func29, Try.ntmps29
  go_wp2_with fail
  refine (markIntS_any lo v1 t k _ H1.out hk0 (by omega) L1.out).mono ?_
  rintro e w1 ⟨rfl, ho1, hg1⟩
  rw [← N1.out] at ho1 ⊢
  have hA1 := HA.out.grown hg1 (fun e => by have := (I1.out _ e.symm).2; have := HH.out; omega)
  have m1 := hA1.c1
  have h21 := H2.out.grown hg1 (fun k hk e => AP.out k e hk)
  have HO := Lib.hid ho1; have HP := Lib.hid h21; have HW1 := Lib.hid (HW.out.trans (Within.of_grown hg1 I1.out))
  clear ho1 hA1 h21 hg1
  go_wp2_with fail
  refine (markIntS_any lo v2 b (k + n1) _ HP.out (by omega) (by omega) L2.out).mono ?_
  rintro e w2 ⟨rfl, ho2, hg2⟩
  have h12 := HO.out.grown hg2 (fun k hk e => AP.out k hk e)
  have HO2 := Lib.hid h12; have HP2 := Lib.hid ho2; have HW2 := Lib.hid (HW1.out.trans (Within.of_grown hg2 I2.out))
  clear h12 ho2 hg2
  go_wp2
  go_ret
  exact ⟨rfl, HO2.out, HP2.out, HW2.out⟩

set_option maxHeartbeats 1000000 in
theorem heldMeander_ok (v1 v2 : Value) (k : Int) (n1 n2 : Nat) (w : World) (h1 : Rd w v1 (marks k n1)) (h2 : Rd w v2 (marks (k + n1) n2)) (hk0 : 0 ≤ k) (hk1 : k ≤ 1000000000) (l1 : n1 ≤ 1000000000) (l2 : n2 ≤ 1000000000) :
    Calls Try.prog 34 #[.agg #[v1, v2], .int .i64 k] w fun e w' => e = .returned (.int .i64 (k + n1 + n2)) ∧ Below w.heap.size w w' := by
  have hA := Box2.new 42 w v1 v2
  have B1 : Below w.heap.size w (w.alloc (.cells #[v1, v2] 42)) := Below.alloc1 w _
  have k0 := hA.c0; have k1 := hA.c1
  have HA := Lib.hid hA; have H1 := Lib.hid (h1.below B1); have H2 := Lib.hid (h2.below B1); have HB := Lib.hid B1
  clear h1 h2 hA B1
  go_enter Try.func34, Try.ntmps34
  go_wp2_with fail
  refine (heldIntS_ok v1 k n1 _ H1.out hk0 (by omega) l1).mono ?_
  rintro e w1 ⟨rfl, hb1⟩
  have m1 := (HA.out.below hb1).c1
  have HB1 := Lib.hid (Below.step HB.out hb1); have H21 := Lib.hid (H2.out.below hb1)
  clear hb1
  go_wp2_with fail
  refine (heldIntS_ok v2 (k + n1) n2 _ H21.out (by omega) (by omega) l2).mono ?_
  rintro e w2 ⟨rfl, hb2⟩
  have HB2 := Lib.hid (Below.step HB1.out hb2)
  clear hb2
  go_wp2
  go_ret
  exact ⟨rfl, HB2.out⟩

end Go.Proofs.Yteeoepbbocdchaa
