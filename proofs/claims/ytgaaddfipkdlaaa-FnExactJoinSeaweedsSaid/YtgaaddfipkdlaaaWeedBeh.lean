/- The steps that wind a seaweed down, by the program. -/
import Derived.Test.YtgaaddfipkdlaaaWeedPut
namespace Go.Proofs.Ytgaaddfipkdlaaa
open Go.RowKit
set_option linter.unusedSimpArgs false
set_option linter.unusedVariables false

/-- where a row comes from: from one of two, or it is new -/
def Src (w : World) (u1 u2 v : Value) : Prop := ∀ b, v.ownBlock = some b → u1.ownBlock = some b ∨ u2.ownBlock = some b ∨ w.heap.size ≤ b
def BehindOut (w : World) (u1 u2 : Value) (t b : List Int) (e : Ending) (w' : World) : Prop := ∃ v1 v2, e = .returned (.agg #[v1, v2]) ∧ Rd w' v1 t ∧ Rd w' v2 b ∧ Below w.heap.size w w' ∧ Src w u1 u2 v1 ∧ Src w u1 u2 v2
theorem results_w4 (F : Func) (hr : F.results = #[.cell 4 58]) (tmps : Array Value) (w : World) (g : Nat) (v1 v2 : Value) (hg : Box2 58 w g v1 v2) (h2 : tmps.getD 4 undef = .pointer (some ⟨g, 0, none⟩)) :
    (results F tmps).run Try.prog w = .ok (.agg #[v1, v2]) w :=
  results_cell_row hr tmps w g _ #[v1, v2] _ _ h2 hg Try.underlying58 rfl (by rw [weed_info]; rfl)
theorem Below.allocS {a w : World} (h : Below a.heap.size a w) (o : Obj) : Below a.heap.size a (w.alloc o) := h.alloc h.size o
theorem below3 (w : World) (o1 o2 o3 : Obj) : Below w.heap.size w (((w.alloc o1).alloc o2).alloc o3) := Below.allocS (Below.allocS (Below.alloc1 w _) _) _
theorem size4 (w : World) (o1 o2 o3 o4 : Obj) : w.heap.size + 1 + 1 + 1 ≤ ((((w.alloc o1).alloc o2).alloc o3).alloc o4).drew.heap.size := by
  show _ ≤ ((((w.alloc o1).alloc o2).alloc o3).alloc o4).heap.size
  rw [World.size_alloc, World.size_alloc, World.size_alloc, World.size_alloc]; omega
/-- a row of one number, laid behind three variables -/
theorem lit1_3 (w : World) (o1 o2 o3 : Obj) (y : Int) : Rd (((((w.alloc o1).alloc o2).alloc o3).alloc (.cells #[.int .i64 y] 3)).drew) (.slice (some ⟨w.heap.size + 1 + 1 + 1, 0, none⟩) 1 1) [y] := by
  have h := Own.rd (Own.lit1 0 (((w.alloc o1).alloc o2).alloc o3) y (Nat.zero_le _))
  rw [World.size_alloc, World.size_alloc, World.size_alloc] at h; exact h.drewN 1
theorem lit2_3 (w : World) (o1 o2 o3 : Obj) (x y : Int) : Rd (((((w.alloc o1).alloc o2).alloc o3).alloc (.cells #[.int .i64 x, .int .i64 y] 3)).drew) (.slice (some ⟨w.heap.size + 1 + 1 + 1, 0, none⟩) 2 2) [x, y] := by
  have h := Own.rd (Own.lit2 0 (((w.alloc o1).alloc o2).alloc o3) x y (Nat.zero_le _))
  rw [World.size_alloc, World.size_alloc, World.size_alloc] at h; exact h.drewN 1
theorem cell_deep {w : World} {cs : Array Value} {T : TypeId} {o2 o3 : Obj} {i : Nat} {v : Value} (h : cs[i]? = some v) : (((w.alloc (.cells cs T)).alloc o2).alloc o3).cell? ⟨w.heap.size, i, none⟩ = some v := by
  have h0 : (w.alloc (.cells cs T)).cell? ⟨w.heap.size, i, none⟩ = some v := by rw [cell_of_row _ _ i _ _ _ (heap_alloc_new w _)]; exact h
  exact ((below2 (w.alloc (.cells cs T)) o2 o3).cell (p := ⟨w.heap.size, i, none⟩) (World.block_lt_of_cell? _ _ h0)).trans h0
/-- the tail of a slice, whichever way it is told -/
theorem tail_one {w : World} {b off c n : Nat} {l : List Int} (h : Rd w (.slice (if c = 1 then some ⟨b, off, none⟩ else some ⟨b, off + 1, none⟩) n (c - 1)) l) (hc : c = 1) : Rd w (.slice (some ⟨b, off, none⟩) n 0) l := by subst hc; simpa using h
theorem tail_more {w : World} {b off c n : Nat} {l : List Int} (h : Rd w (.slice (if c = 1 then some ⟨b, off, none⟩ else some ⟨b, off + 1, none⟩) n (c - 1)) l) (hc : ¬ c = 1) : Rd w (.slice (some ⟨b, off + 1, none⟩) n (c - 1)) l := by rw [if_neg hc] at h; exact h


theorem litD1 (W : World) (y : Int) : Rd ((W.alloc (.cells #[.int .i64 y] 3)).drew) (.slice (some ⟨W.heap.size, 0, none⟩) 1 1) [y] := (Own.rd (Own.lit1 0 W y (Nat.zero_le _))).drewN 1
theorem litD2 (W : World) (x y : Int) : Rd ((W.alloc (.cells #[.int .i64 x, .int .i64 y] 3)).drew) (.slice (some ⟨W.heap.size, 0, none⟩) 2 2) [x, y] := (Own.rd (Own.lit2 0 W x y (Nat.zero_le _))).drewN 1
theorem Own.upD {W w1 : World} {o : Obj} {v : Value} {l : List Int} (h : Own ((W.alloc o).drew).heap.size w1 v l) : Own W.heap.size w1 v l := h.mono (Nat.le_of_lt (alloc_lt W o))
theorem Below.upD {w W w1 : World} {o : Obj} (h : Below w.heap.size w W) (hb : Below ((W.alloc o).drew).heap.size ((W.alloc o).drew) w1) : Below w.heap.size w w1 := Below.step (Below.allocS h o).drew hb
theorem Box2.upD {T : TypeId} {W w1 : World} {o : Obj} {g : Nat} {v1 v2 : Value} (h : Box2 T W g v1 v2) (hb : Below ((W.alloc o).drew).heap.size ((W.alloc o).drew) w1) : Box2 T w1 g v1 v2 := (h.below (Below.alloc1 W o).drew).below hb
theorem Rd.upD {W w1 : World} {o : Obj} {v : Value} {l : List Int} (h : Rd (W.alloc o) v l) (hb : Below ((W.alloc o).drew).heap.size ((W.alloc o).drew) w1) : Rd w1 v l := Rd.below (w := (W.alloc o).drew) h hb
theorem litDD1a (W : World) (y : Int) (o : Obj) : Rd (((W.alloc (.cells #[.int .i64 y] 3)).alloc o).drew) (.slice (some ⟨W.heap.size, 0, none⟩) 1 1) [y] := ((Own.rd (Own.lit1 0 W y (Nat.zero_le _))).below (Below.alloc1 _ o)).drewN 1
theorem litDD1b (W : World) (y : Int) (o : Obj) : Rd (((W.alloc o).alloc (.cells #[.int .i64 y] 3)).drew) (.slice (some ⟨W.heap.size + 1, 0, none⟩) 1 1) [y] := by
  have h := Own.rd (Own.lit1 0 (W.alloc o) y (Nat.zero_le _))
  rw [World.size_alloc] at h; exact h.drewN 1
theorem Own.upDD {W w1 : World} {o o' : Obj} {v : Value} {l : List Int} (h : Own (((W.alloc o).alloc o').drew).heap.size w1 v l) : Own W.heap.size w1 v l := h.mono (Nat.le_trans (Nat.le_of_lt (alloc_lt W o)) (Nat.le_of_lt (alloc_lt (W.alloc o) o')))
theorem Below.upDD {w W w1 : World} {o o' : Obj} (h : Below w.heap.size w W) (hb : Below (((W.alloc o).alloc o').drew).heap.size (((W.alloc o).alloc o').drew) w1) : Below w.heap.size w w1 := Below.step (Below.allocS (Below.allocS h o) o').drew hb
theorem Box2.upDD {T : TypeId} {W w1 : World} {o o' : Obj} {g : Nat} {v1 v2 : Value} (h : Box2 T W g v1 v2) (hb : Below (((W.alloc o).alloc o').drew).heap.size (((W.alloc o).alloc o').drew) w1) : Box2 T w1 g v1 v2 := (h.below (Below.step (Below.alloc1 W o) (Below.alloc1 _ o')).drew).below hb
theorem size_upD {W w1 : World} {o : Obj} (hb : Below ((W.alloc o).drew).heap.size ((W.alloc o).drew) w1) : W.heap.size ≤ w1.heap.size := Nat.le_trans (Nat.le_of_lt (alloc_lt W o)) hb.size
theorem size_upDD {W w1 : World} {o o' : Obj} (hb : Below (((W.alloc o).alloc o').drew).heap.size (((W.alloc o).alloc o').drew) w1) : W.heap.size ≤ w1.heap.size := Nat.le_trans (Nat.le_trans (Nat.le_of_lt (alloc_lt W o)) (Nat.le_of_lt (alloc_lt (W.alloc o) o'))) hb.size
theorem bh_keep {w w1 w2 : World} {g i j : Nat} {v0 v1 u1 u2 : Value} (h : Hid (Below w.heap.size w w1) ∧ w1.cell? ⟨g, i, none⟩ = some v0 ∧ w1.cell? ⟨g, j, none⟩ = some v1 ∧ w1.cell? ⟨g + 1, 0, none⟩ = some u1 ∧ w1.cell? ⟨g + 1, 1, none⟩ = some u2) (hb : Below w1.heap.size w1 w2) :
    Hid (Below w.heap.size w w2) ∧ w2.cell? ⟨g, i, none⟩ = some v0 ∧ w2.cell? ⟨g, j, none⟩ = some v1 ∧ w2.cell? ⟨g + 1, 0, none⟩ = some u1 ∧ w2.cell? ⟨g + 1, 1, none⟩ = some u2 := by
  have k : ∀ (a : Addr) v, w1.cell? a = some v → w2.cell? a = some v := fun a v hv => (hb.cell (World.block_lt_of_cell? w1 _ hv)).trans hv
  exact ⟨h.1.out.trans (hb.mono h.1.out.size), k _ _ h.2.1, k _ _ h.2.2.1, k _ _ h.2.2.2.1, k _ _ h.2.2.2.2⟩
theorem bh_out {w w1 : World} {g i j : Nat} {v0 v1 u1 u2 : Value} (h : Hid (Below w.heap.size w w1) ∧ w1.cell? ⟨g, i, none⟩ = some v0 ∧ w1.cell? ⟨g, j, none⟩ = some v1 ∧ w1.cell? ⟨g + 1, 0, none⟩ = some u1 ∧ w1.cell? ⟨g + 1, 1, none⟩ = some u2) : Below w.heap.size w w1 := h.1
theorem bh_alloc {w w1 : World} {g i j : Nat} {v0 v1 u1 u2 : Value} (h : Hid (Below w.heap.size w w1) ∧ w1.cell? ⟨g, i, none⟩ = some v0 ∧ w1.cell? ⟨g, j, none⟩ = some v1 ∧ w1.cell? ⟨g + 1, 0, none⟩ = some u1 ∧ w1.cell? ⟨g + 1, 1, none⟩ = some u2) (o : Obj) :
    Hid (Below w.heap.size w (w1.alloc o)) ∧ (w1.alloc o).cell? ⟨g, i, none⟩ = some v0 ∧ (w1.alloc o).cell? ⟨g, j, none⟩ = some v1 ∧ (w1.alloc o).cell? ⟨g + 1, 0, none⟩ = some u1 ∧ (w1.alloc o).cell? ⟨g + 1, 1, none⟩ = some u2 := bh_keep h (Below.alloc1 w1 o)
theorem bh_allocD {w w1 : World} {g i j : Nat} {v0 v1 u1 u2 : Value} (h : Hid (Below w.heap.size w w1.drew) ∧ w1.drew.cell? ⟨g, i, none⟩ = some v0 ∧ w1.drew.cell? ⟨g, j, none⟩ = some v1 ∧ w1.drew.cell? ⟨g + 1, 0, none⟩ = some u1 ∧ w1.drew.cell? ⟨g + 1, 1, none⟩ = some u2) (o : Obj) :
    Hid (Below w.heap.size w (w1.alloc o).drew) ∧ (w1.alloc o).drew.cell? ⟨g, i, none⟩ = some v0 ∧ (w1.alloc o).drew.cell? ⟨g, j, none⟩ = some v1 ∧ (w1.alloc o).drew.cell? ⟨g + 1, 0, none⟩ = some u1 ∧ (w1.alloc o).drew.cell? ⟨g + 1, 1, none⟩ = some u2 := bh_keep (w2 := w1.drew.alloc o) h (Below.alloc1 w1.drew o)
theorem bh_set {w w1 : World} {i j : Nat} {v0 v1 u1 u2 : Value} (h : Hid (Below w.heap.size w w1) ∧ w1.cell? ⟨w.heap.size, i, none⟩ = some v0 ∧ w1.cell? ⟨w.heap.size, j, none⟩ = some v1 ∧ w1.cell? ⟨w.heap.size + 1, 0, none⟩ = some u1 ∧ w1.cell? ⟨w.heap.size + 1, 1, none⟩ = some u2) (x y : Value) :
    Hid (Below w.heap.size w ((w1.setCell ⟨w.heap.size + 1 + 1, 0, none⟩ x).setCell ⟨w.heap.size + 1 + 1, 1, none⟩ y)) ∧ ((w1.setCell ⟨w.heap.size + 1 + 1, 0, none⟩ x).setCell ⟨w.heap.size + 1 + 1, 1, none⟩ y).cell? ⟨w.heap.size, i, none⟩ = some v0 ∧ ((w1.setCell ⟨w.heap.size + 1 + 1, 0, none⟩ x).setCell ⟨w.heap.size + 1 + 1, 1, none⟩ y).cell? ⟨w.heap.size, j, none⟩ = some v1 ∧ ((w1.setCell ⟨w.heap.size + 1 + 1, 0, none⟩ x).setCell ⟨w.heap.size + 1 + 1, 1, none⟩ y).cell? ⟨w.heap.size + 1, 0, none⟩ = some u1 ∧ ((w1.setCell ⟨w.heap.size + 1 + 1, 0, none⟩ x).setCell ⟨w.heap.size + 1 + 1, 1, none⟩ y).cell? ⟨w.heap.size + 1, 1, none⟩ = some u2 := by
  have hb : Below (w.heap.size + 1 + 1) w1 ((w1.setCell ⟨w.heap.size + 1 + 1, 0, none⟩ x).setCell ⟨w.heap.size + 1 + 1, 1, none⟩ y) := ((Below.refl _ w1).setCell (p := ⟨w.heap.size + 1 + 1, 0, none⟩) (Nat.le_refl _) x).setCell (p := ⟨w.heap.size + 1 + 1, 1, none⟩) (Nat.le_refl _) y
  have hB := (h.1.out.setCell (p := ⟨w.heap.size + 1 + 1, 0, none⟩) (by show _ ≤ w.heap.size + 1 + 1; omega) x).setCell (p := ⟨w.heap.size + 1 + 1, 1, none⟩) (by show _ ≤ w.heap.size + 1 + 1; omega) y
  have k : ∀ (a : Addr) v, a.block < w.heap.size + 1 + 1 → w1.cell? a = some v → ((w1.setCell ⟨w.heap.size + 1 + 1, 0, none⟩ x).setCell ⟨w.heap.size + 1 + 1, 1, none⟩ y).cell? a = some v := fun a v ha hv => (hb.cell ha).trans hv
  exact ⟨hB, k _ _ (by show w.heap.size < _; omega) h.2.1, k _ _ (by show w.heap.size < _; omega) h.2.2.1, k _ _ (by show w.heap.size + 1 < _; omega) h.2.2.2.1, k _ _ (by show w.heap.size + 1 < _; omega) h.2.2.2.2⟩
theorem beh_one {w W w1 : World} {x1 : Option Addr} {y1 z1 : Nat} {v2 : Value} {l1 l2 : List Int} (HO : Own W.heap.size w1 (.slice x1 y1 z1) l1) (hg : w.heap.size + 1 + 1 < W.heap.size) (HB : Below w.heap.size w w1) (G : Rd w v2 l2) {u1 u2 : Value} (hv : ∀ b, v2.ownBlock = some b → u2.ownBlock = some b) :
    BehindOut w u1 u2 l1 l2 (.returned (.agg #[.slice x1 y1 z1, v2])) ((w1.setCell ⟨w.heap.size + 1 + 1, 0, none⟩ (.slice x1 y1 z1)).setCell ⟨w.heap.size + 1 + 1, 1, none⟩ v2) :=
  have hb := (HB.setCell (p := ⟨w.heap.size + 1 + 1, 0, none⟩) (by show _ ≤ w.heap.size + 1 + 1; omega) (.slice x1 y1 z1)).setCell (p := ⟨w.heap.size + 1 + 1, 1, none⟩) (by show _ ≤ w.heap.size + 1 + 1; omega) v2
  ⟨_, _, rfl, (HO.set2 hg _ _).rd, G.below hb, hb, fun k hk => .inr (.inr (by have := (HO.lt k hk).1; omega)), fun k hk => .inr (.inl (hv k hk))⟩
end Go.Proofs.Ytgaaddfipkdlaaa
