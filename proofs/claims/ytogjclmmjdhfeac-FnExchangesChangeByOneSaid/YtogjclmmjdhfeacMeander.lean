/- Pairs of lists in a struct: what they read as, and the laws' own helpers on them. -/
import Derived.Test.YtogjclmmjdhfeacOwn
namespace Go.Proofs.Ytogjclmmjdhfeac
open Go.RowKit
set_option linter.unusedSimpArgs false
set_option linter.unusedVariables false

/-- a struct of two slices in a variable -/
def Box2 (T : TypeId) (w : World) (b : Nat) (v1 v2 : Value) : Prop := w.heap[b]? = some (.cells #[v1, v2] T (0, 0))
theorem Box2.below {T : TypeId} {w w' : World} {b : Nat} {v1 v2 : Value} (h : Box2 T w b v1 v2) (hb : Below w.heap.size w w') : Box2 T w' b v1 v2 := (hb.block b (Array.getElem?_eq_some_iff.1 h).1).trans h
theorem Box2.grown {T : TypeId} {w w' : World} {b : Nat} {v1 v2 : Value} {row : Option Nat} (h : Box2 T w b v1 v2) (hg : w.grownBy w' row) (hne : some b ≠ row) : Box2 T w' b v1 v2 := (hg.block b (Array.getElem?_eq_some_iff.1 h).1 hne).trans h
theorem Box2.lt {T : TypeId} {w : World} {b : Nat} {v1 v2 : Value} (h : Box2 T w b v1 v2) : b < w.heap.size := (Array.getElem?_eq_some_iff.1 h).1
theorem Box2.c0 {T : TypeId} {w : World} {b : Nat} {v1 v2 : Value} (h : Box2 T w b v1 v2) : w.cell? ⟨b, 0, none⟩ = some v1 := by rw [cell_of_row w b _ _ _ _ h]; rfl
theorem Box2.c1 {T : TypeId} {w : World} {b : Nat} {v1 v2 : Value} (h : Box2 T w b v1 v2) : w.cell? ⟨b, 1, none⟩ = some v2 := by rw [cell_of_row w b _ _ _ _ h]; rfl
theorem Box2.free {T : TypeId} {w : World} {b : Nat} {v1 v2 : Value} (h : Box2 T w b v1 v2) (k : Nat) : w.frozen? ⟨b, k, none⟩ = false := frozen_of_row w b k _ _ h
theorem Box2.set0 {T : TypeId} {w : World} {b : Nat} {v1 v2 : Value} (h : Box2 T w b v1 v2) (x : Value) : Box2 T (w.setCell ⟨b, 0, none⟩ x) b x v2 := heap_setCell_same w b 0 _ _ x h
theorem Box2.set1 {T : TypeId} {w : World} {b : Nat} {v1 v2 : Value} (h : Box2 T w b v1 v2) (x : Value) : Box2 T (w.setCell ⟨b, 1, none⟩ x) b v1 x := heap_setCell_same w b 1 _ _ x h
theorem Box2.new (T : TypeId) (w : World) (v1 v2 : Value) : Box2 T (w.alloc (.cells #[v1, v2] T)) w.heap.size v1 v2 := heap_alloc_new w _
theorem Box2.new_drew (T : TypeId) (w : World) (v1 v2 : Value) : Box2 T (w.alloc (.cells #[v1, v2] T)).drew w.heap.size v1 v2 := heap_alloc_new w _
theorem cells_new (w : World) (v1 v2 : Value) (T : TypeId) : (w.alloc (.cells #[v1, v2] T)).cell? ⟨w.heap.size, 0, none⟩ = some v1 ∧ (w.alloc (.cells #[v1, v2] T)).cell? ⟨w.heap.size, 1, none⟩ = some v2 := ⟨(Box2.new T w v1 v2).c0, (Box2.new T w v1 v2).c1⟩

theorem Box2.within {T : TypeId} {lo hi : Nat} {w w' : World} {b : Nat} {v1 v2 : Value} (h : Box2 T w b v1 v2) (hw : Within lo hi w w') (ha : b < lo ∨ hi ≤ b) : Box2 T w' b v1 v2 := (hw.block b (Array.getElem?_eq_some_iff.1 h).1 ha).trans h
/-- two structs held through a region that draws its order -/
theorem held_start {T T' : TypeId} {w : World} {b b' : Nat} {u1 u2 v1 v2 : Value} (h : Box2 T w b u1 u2) (h' : Box2 T' w b' v1 v2) :
    Hid (Below w.heap.size w w.drew) ∧ w.drew.cell? ⟨b, 0, none⟩ = some u1 ∧ w.drew.cell? ⟨b, 1, none⟩ = some u2 ∧ w.drew.cell? ⟨b', 0, none⟩ = some v1 ∧ w.drew.cell? ⟨b', 1, none⟩ = some v2 :=
  ⟨Below.drew (Below.refl _ _), h.c0, h.c1, h'.c0, h'.c1⟩
theorem held_keep {w w1 w2 : World} {b b' : Nat} {u1 u2 v1 v2 : Value} (h : Hid (Below w.heap.size w w1) ∧ w1.cell? ⟨b, 0, none⟩ = some u1 ∧ w1.cell? ⟨b, 1, none⟩ = some u2 ∧ w1.cell? ⟨b', 0, none⟩ = some v1 ∧ w1.cell? ⟨b', 1, none⟩ = some v2) (hb : Below w1.heap.size w1 w2) :
    Hid (Below w.heap.size w w2) ∧ w2.cell? ⟨b, 0, none⟩ = some u1 ∧ w2.cell? ⟨b, 1, none⟩ = some u2 ∧ w2.cell? ⟨b', 0, none⟩ = some v1 ∧ w2.cell? ⟨b', 1, none⟩ = some v2 := by
  have k : ∀ (a : Addr) v, w1.cell? a = some v → w2.cell? a = some v := fun a v hv => (hb.cell (World.block_lt_of_cell? w1 _ hv)).trans hv
  exact ⟨h.1.out.trans (hb.mono h.1.out.size), k _ _ h.2.1, k _ _ h.2.2.1, k _ _ h.2.2.2.1, k _ _ h.2.2.2.2⟩
theorem held_out {w w1 : World} {b b' : Nat} {u1 u2 v1 v2 : Value} (h : Hid (Below w.heap.size w w1) ∧ w1.cell? ⟨b, 0, none⟩ = some u1 ∧ w1.cell? ⟨b, 1, none⟩ = some u2 ∧ w1.cell? ⟨b', 0, none⟩ = some v1 ∧ w1.cell? ⟨b', 1, none⟩ = some v2) : Below w.heap.size w w1 := h.1

theorem held_alloc {w w1 : World} {b b' : Nat} {u1 u2 v1 v2 : Value} (h : Hid (Below w.heap.size w w1) ∧ w1.cell? ⟨b, 0, none⟩ = some u1 ∧ w1.cell? ⟨b, 1, none⟩ = some u2 ∧ w1.cell? ⟨b', 0, none⟩ = some v1 ∧ w1.cell? ⟨b', 1, none⟩ = some v2) (o : Obj) :
    Hid (Below w.heap.size w (w1.alloc o)) ∧ (w1.alloc o).cell? ⟨b, 0, none⟩ = some u1 ∧ (w1.alloc o).cell? ⟨b, 1, none⟩ = some u2 ∧ (w1.alloc o).cell? ⟨b', 0, none⟩ = some v1 ∧ (w1.alloc o).cell? ⟨b', 1, none⟩ = some v2 := held_keep h (Below.alloc1 w1 o)
theorem held_two {T T' : TypeId} {w w1 : World} {b b' : Nat} {u1 u2 v1 v2 : Value} (h : Box2 T w b u1 u2) (h' : Box2 T' w b' v1 v2) (hb : Below w.heap.size w w1) :
    Hid (Below w.heap.size w w1) ∧ w1.cell? ⟨b, 0, none⟩ = some u1 ∧ w1.cell? ⟨b, 1, none⟩ = some u2 ∧ w1.cell? ⟨b', 0, none⟩ = some v1 ∧ w1.cell? ⟨b', 1, none⟩ = some v2 := ⟨hb, (h.below hb).c0, (h.below hb).c1, (h'.below hb).c0, (h'.below hb).c1⟩

def ApartV (u v : Value) : Prop := ∀ k, u.ownBlock = some k → v.ownBlock ≠ some k
theorem ApartV.nil (v : Value) : ApartV (.slice none 0 0) v := fun k hk => by cases hk

theorem alloc_lt (w : World) (o : Obj) : w.heap.size < (w.alloc o).heap.size := by simp
theorem Own.set2 {B g : Nat} {w : World} {v : Value} {l : List Int} (h : Own B w v l) (hg : g < B) (x y : Value) : Own B ((w.setCell ⟨g, 0, none⟩ x).setCell ⟨g, 1, none⟩ y) v l :=
  h.grown (grown_trans grown_setCell grown_setCell) (fun k hk e => by have := (h.lt k hk).1; cases e; omega)
/-- a pair of lists that a call gave, put into a new variable -/
theorem met_new {T : TypeId} {lo B : Nat} {w2 wq3 : World} {v1 v2 : Value} {r1 r2 : List Int} (hB : Below lo w2 wq3) (hlo : lo = w2.heap.size) (hb : lo ≤ B) (h1 : Own B wq3 v1 r1) (h2 : Own B wq3 v2 r2) (ha : ApartV v1 v2) :
    Hid (Box2 T (wq3.alloc (.cells #[v1, v2] T)) wq3.heap.size v1 v2 ∧ (lo ≤ wq3.heap.size ∧ wq3.heap.size < (wq3.alloc (.cells #[v1, v2] T)).heap.size) ∧ Own lo (wq3.alloc (.cells #[v1, v2] T)) v1 r1 ∧ Own lo (wq3.alloc (.cells #[v1, v2] T)) v2 r2 ∧ ApartV v1 v2) ∧ Hid (Below lo w2 (wq3.alloc (.cells #[v1, v2] T))) := by
  subst hlo
  have a1 := (Own.below h1 (Below.alloc1 wq3 (.cells #[v1, v2] T))).mono hb
  have a2 := (Own.below h2 (Below.alloc1 wq3 (.cells #[v1, v2] T))).mono hb
  have a3 : Below w2.heap.size w2 (wq3.alloc (.cells #[v1, v2] T)) := Below.step hB (Below.alloc1 _ _)
  exact ⟨⟨Box2.new T wq3 v1 v2, ⟨hB.size, alloc_lt _ _⟩, a1, a2, ha⟩, a3⟩
/-- a pair of lists that a call gave, put into a variable that was there -/
theorem met_set {T : TypeId} {lo B g : Nat} {w2 wq3 : World} {v1 v2 u1 u2 : Value} {r1 r2 : List Int} (hx : Box2 T wq3 g u1 u2) (hg : lo ≤ g) (hgB : g < B) (hB : Below lo w2 wq3) (hlo : lo = w2.heap.size) (hb : lo ≤ B) (h1 : Own B wq3 v1 r1) (h2 : Own B wq3 v2 r2) (ha : ApartV v1 v2) :
    Hid (Box2 T ((wq3.setCell ⟨g, 0, none⟩ v1).setCell ⟨g, 1, none⟩ v2) g v1 v2 ∧ (lo ≤ g ∧ g < ((wq3.setCell ⟨g, 0, none⟩ v1).setCell ⟨g, 1, none⟩ v2).heap.size) ∧ Own lo ((wq3.setCell ⟨g, 0, none⟩ v1).setCell ⟨g, 1, none⟩ v2) v1 r1 ∧ Own lo ((wq3.setCell ⟨g, 0, none⟩ v1).setCell ⟨g, 1, none⟩ v2) v2 r2 ∧ ApartV v1 v2) ∧ Hid (Below lo w2 ((wq3.setCell ⟨g, 0, none⟩ v1).setCell ⟨g, 1, none⟩ v2)) := by
  have b := (hx.set0 v1).set1 v2
  have a3 : Below lo w2 ((wq3.setCell ⟨g, 0, none⟩ v1).setCell ⟨g, 1, none⟩ v2) := (hB.setCell (p := ⟨g, 0, none⟩) hg v1).setCell (p := ⟨g, 1, none⟩) hg v2
  exact ⟨⟨b, ⟨hg, b.lt⟩, (h1.set2 hgB v1 v2).mono hb, (h2.set2 hgB v1 v2).mono hb, ha⟩, a3⟩

theorem mea_info : (Try.prog.info? 26).map (·.size) = some 2 := by kernel_rfl
/-- two lists in a struct that a call made itself -/
def MadeM (w : World) (t b : List Int) (e : Ending) (w' : World) : Prop := ∃ v1 v2, e = .returned (.agg #[v1, v2]) ∧ Own w.heap.size w' v1 t ∧ Own w.heap.size w' v2 b ∧ ApartV v1 v2 ∧ Below w.heap.size w w'
def GivesM (w : World) (t b : List Int) (ok : Bool) (e : Ending) (w' : World) : Prop := ∃ v1 v2, e = .returned (.tuple #[.agg #[v1, v2], .bool ok]) ∧ Own w.heap.size w' v1 t ∧ Own w.heap.size w' v2 b ∧ ApartV v1 v2 ∧ Below w.heap.size w w'

theorem run_loadMea (w : World) (g : Nat) (v1 v2 : Value) (hg : Box2 26 w g v1 v2) : (loadVar 26 ⟨g, 0, none⟩).run Try.prog w = .ok (.agg #[v1, v2]) w :=
  run_loadVar_row w g _ _ #[v1, v2] _ _ hg Try.underlying26 rfl (by rw [mea_info]; rfl)


end Go.Proofs.Ytogjclmmjdhfeac
