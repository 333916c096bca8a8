/- A step that winds a seaweed down, by the model. -/
import Derived.Test.YtgaaddfipkdlaaaWeedSwPut
namespace Go.Proofs.Ytgaaddfipkdlaaa
open Go.RowKit
set_option linter.unusedSimpArgs false
set_option linter.unusedVariables false

def letB (n : Nat) : ByteArray := if n = 0 then ⟨#[70]⟩ else if n = 1 then ⟨#[67]⟩ else if n = 2 then ⟨#[66]⟩ else if n = 3 then ⟨#[82]⟩ else ⟨#[80]⟩
def MadeX (w : World) (t b : List Int) (s : ByteArray) (e : Ending) (w' : World) : Prop := ∃ v1 v2, e = .returned (.tuple #[.agg #[v1, v2], .string s]) ∧ Own w.heap.size w' v1 t ∧ Own w.heap.size w' v2 b ∧ ApartV v1 v2 ∧ Below w.heap.size w w'
theorem s2_keep {w w1 w2 : World} {g : Nat} {u1 u2 : Value} (h : Hid (Below w.heap.size w w1) ∧ w1.cell? ⟨g, 0, none⟩ = some u1 ∧ w1.cell? ⟨g, 1, none⟩ = some u2) (hb : Below w1.heap.size w1 w2) :
    Hid (Below w.heap.size w w2) ∧ w2.cell? ⟨g, 0, none⟩ = some u1 ∧ w2.cell? ⟨g, 1, none⟩ = some u2 := by
  have k : ∀ (a : Addr) v, w1.cell? a = some v → w2.cell? a = some v := fun a v hv => (hb.cell (World.block_lt_of_cell? w1 _ hv)).trans hv
  exact ⟨h.1.out.trans (hb.mono h.1.out.size), k _ _ h.2.1, k _ _ h.2.2⟩
theorem s2_out {w w1 : World} {g : Nat} {u1 u2 : Value} (h : Hid (Below w.heap.size w w1) ∧ w1.cell? ⟨g, 0, none⟩ = some u1 ∧ w1.cell? ⟨g, 1, none⟩ = some u2) : Below w.heap.size w w1 := h.1
theorem s2_alloc {w w1 : World} {g : Nat} {u1 u2 : Value} (h : Hid (Below w.heap.size w w1) ∧ w1.cell? ⟨g, 0, none⟩ = some u1 ∧ w1.cell? ⟨g, 1, none⟩ = some u2) (o : Obj) :
    Hid (Below w.heap.size w (w1.alloc o)) ∧ (w1.alloc o).cell? ⟨g, 0, none⟩ = some u1 ∧ (w1.alloc o).cell? ⟨g, 1, none⟩ = some u2 := s2_keep h (Below.alloc1 w1 o)
theorem s2_allocD {w w1 : World} {g : Nat} {u1 u2 : Value} (h : Hid (Below w.heap.size w w1.drew) ∧ w1.drew.cell? ⟨g, 0, none⟩ = some u1 ∧ w1.drew.cell? ⟨g, 1, none⟩ = some u2) (o : Obj) :
    Hid (Below w.heap.size w (w1.alloc o).drew) ∧ (w1.alloc o).drew.cell? ⟨g, 0, none⟩ = some u1 ∧ (w1.alloc o).drew.cell? ⟨g, 1, none⟩ = some u2 := s2_keep (w2 := w1.drew.alloc o) h (Below.alloc1 w1.drew o)
theorem s2_set {w w1 : World} {u1 u2 : Value} (h : Hid (Below w.heap.size w w1) ∧ w1.cell? ⟨w.heap.size, 0, none⟩ = some u1 ∧ w1.cell? ⟨w.heap.size, 1, none⟩ = some u2) (x y : Value) :
    Hid (Below w.heap.size w ((w1.setCell ⟨w.heap.size + 1, 0, none⟩ x).setCell ⟨w.heap.size + 1, 1, none⟩ y)) ∧ ((w1.setCell ⟨w.heap.size + 1, 0, none⟩ x).setCell ⟨w.heap.size + 1, 1, none⟩ y).cell? ⟨w.heap.size, 0, none⟩ = some u1 ∧ ((w1.setCell ⟨w.heap.size + 1, 0, none⟩ x).setCell ⟨w.heap.size + 1, 1, none⟩ y).cell? ⟨w.heap.size, 1, none⟩ = some u2 := by
  have hb : Below (w.heap.size + 1) w1 ((w1.setCell ⟨w.heap.size + 1, 0, none⟩ x).setCell ⟨w.heap.size + 1, 1, none⟩ y) := ((Below.refl _ w1).setCell (p := ⟨w.heap.size + 1, 0, none⟩) (Nat.le_refl _) x).setCell (p := ⟨w.heap.size + 1, 1, none⟩) (Nat.le_refl _) y
  have hB := (h.1.out.setCell (p := ⟨w.heap.size + 1, 0, none⟩) (by show _ ≤ w.heap.size + 1; omega) x).setCell (p := ⟨w.heap.size + 1, 1, none⟩) (by show _ ≤ w.heap.size + 1; omega) y
  have k : ∀ (a : Addr) v, a.block < w.heap.size + 1 → w1.cell? a = some v → ((w1.setCell ⟨w.heap.size + 1, 0, none⟩ x).setCell ⟨w.heap.size + 1, 1, none⟩ y).cell? a = some v := fun a v ha hv => (hb.cell ha).trans hv
  exact ⟨hB, k _ _ (by show w.heap.size < _; omega) h.2.1, k _ _ (by show w.heap.size < _; omega) h.2.2⟩
/-- a result that is stored -/
theorem put_res {w W w2 : World} {v1 v2 : Value} {l1 l2 : List Int} {r1 r2 : Value} (HR : Box2 29 w2 (w.heap.size + 1) r1 r2) (H1 : Own W.heap.size w2 v1 l1) (H2 : Own W.heap.size w2 v2 l2) (AP : ApartV v1 v2) (hg : w.heap.size + 1 < W.heap.size) (HB : Below w.heap.size w w2) :
    Hid (Box2 29 ((w2.setCell ⟨w.heap.size + 1, 0, none⟩ v1).setCell ⟨w.heap.size + 1, 1, none⟩ v2) (w.heap.size + 1) v1 v2 ∧
      Own w.heap.size ((w2.setCell ⟨w.heap.size + 1, 0, none⟩ v1).setCell ⟨w.heap.size + 1, 1, none⟩ v2) v1 l1 ∧
      Own w.heap.size ((w2.setCell ⟨w.heap.size + 1, 0, none⟩ v1).setCell ⟨w.heap.size + 1, 1, none⟩ v2) v2 l2 ∧ ApartV v1 v2 ∧
      Below w.heap.size w ((w2.setCell ⟨w.heap.size + 1, 0, none⟩ v1).setCell ⟨w.heap.size + 1, 1, none⟩ v2)) :=
  ⟨(HR.set0 _).set1 _, (H1.set2 hg _ _).mono (by omega), (H2.set2 hg _ _).mono (by omega), AP, (HB.setCell (p := ⟨w.heap.size + 1, 0, none⟩) (by show _ ≤ w.heap.size + 1; omega) v1).setCell (p := ⟨w.heap.size + 1, 1, none⟩) (by show _ ≤ w.heap.size + 1; omega) v2⟩
theorem apart_of {w1 w2 : World} {K B : Nat} {v1 v2 : Value} {l1 l2 : List Int} (H1 : Own K w1 v1 l1) (H2 : Own B w2 v2 l2) (h : w1.heap.size ≤ B) : ApartV v1 v2 := fun k hk hk' => by
  have h5 := (H1.lt k hk).2; have h6 := (H2.lt k hk').1; omega
theorem litS1 (W : World) (y : Int) : Rd (W.alloc (.cells #[.int .i64 y] 3)) (.slice (some ⟨W.heap.size, 0, none⟩) 1 1) [y] := Own.rd (Own.lit1 0 W y (Nat.zero_le _))

end Go.Proofs.Ytgaaddfipkdlaaa
