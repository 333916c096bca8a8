/- The steps that wind a seaweed down, by the program. -/
import Derived.Test.YtllhdmpnjcemkabWeedPut
namespace Go.Proofs.Ytllhdmpnjcemkab
open Go.RowKit
set_option linter.unusedSimpArgs false
set_option linter.unusedVariables false

/-- where a row comes from: from one of two, or it is new -/
def Src (w : World) (u1 u2 v : Value) : Prop := ∀ b, v.ownBlock = some b → u1.ownBlock = some b ∨ u2.ownBlock = some b ∨ w.heap.size ≤ b
def BehindOut (w : World) (u1 u2 : Value) (t b : List Int) (e : Ending) (w' : World) : Prop := ∃ v1 v2, e = .returned (.agg #[v1, v2]) ∧ Rd w' v1 t ∧ Rd w' v2 b ∧ Below w.heap.size w w' ∧ Src w u1 u2 v1 ∧ Src w u1 u2 v2
theorem results_w4 (F : Func) (hr : F.results = #[.cell 4 51]) (tmps : Array Value) (w : World) (g : Nat) (v1 v2 : Value) (hg : Box2 51 w g v1 v2) (h2 : tmps.getD 4 undef = .pointer (some ⟨g, 0, none⟩)) :
    (results F tmps).run Try.prog w = .ok (.agg #[v1, v2]) w :=
  results_cell_row hr tmps w g _ #[v1, v2] _ _ h2 hg Try.underlying51 rfl (by rw [weed_info]; rfl)
theorem Below.allocS {a w : World} (h : Below a.heap.size a w) (o : Obj) : Below a.heap.size a (w.alloc o) := h.alloc h.size o
theorem below3 (w : World) (o1 o2 o3 : Obj) : Below w.heap.size w (((w.alloc o1).alloc o2).alloc o3) := Below.allocS (Below.allocS (Below.alloc1 w _) _) _
theorem size4 (w : World) (o1 o2 o3 o4 : Obj) : w.heap.size + 1 + 1 + 1 ≤ ((((w.alloc o1).alloc o2).alloc o3).alloc o4).drew.heap.size := by
  show _ ≤ ((((w.alloc o1).alloc o2).alloc o3).alloc o4).heap.size
  rw [World.size_alloc, World.size_alloc, World.size_alloc, World.size_alloc]; omega
/-- a row of one number, laid behind three variables -/
theorem lit1_3 (w : World) (o1 o2 o3 : Obj) (y : Int) : Rd (((((w.alloc o1).alloc o2).alloc o3).alloc (.cells #[.int .i64 y] 3)).drew) (.slice (some ⟨w.heap.size + 1 + 1 + 1, 0, none⟩) 1 1) [y] := by
  have h := Own.rd (Own.lit1 0 (((w.alloc o1).alloc o2).alloc o3) y (Nat.zero_le _))
  rw [World.size_alloc, World.size_alloc, World.size_alloc] at h; exact h.drewN 1
theorem lit2_3 (w : World) (o1 o2 o3 : Obj) (x y : Int) : Rd (((((w.alloc o1).alloc o2).alloc o3).alloc (.cells #[.int .i64 x, .int .i64 y] 3)).drew) (.slice (some ⟨w.heap.size + 1 + 1 + 1, 0, none⟩) 2 2) [x, y] := by
  have h := Own.rd (Own.lit2 0 (((w.alloc o1).alloc o2).alloc o3) x y (Nat.zero_le _))
  rw [World.size_alloc, World.size_alloc, World.size_alloc] at h; exact h.drewN 1
theorem cell_deep {w : World} {cs : Array Value} {T : TypeId} {o2 o3 : Obj} {i : Nat} {v : Value} (h : cs[i]? = some v) : (((w.alloc (.cells cs T)).alloc o2).alloc o3).cell? ⟨w.heap.size, i, none⟩ = some v := by
  have h0 : (w.alloc (.cells cs T)).cell? ⟨w.heap.size, i, none⟩ = some v := by rw [cell_of_row _ _ i _ _ _ (heap_alloc_new w _)]; exact h
  exact ((below2 (w.alloc (.cells cs T)) o2 o3).cell (p := ⟨w.heap.size, i, none⟩) (World.block_lt_of_cell? _ _ h0)).trans h0
/-- the tail of a slice, whichever way it is told -/
theorem tail_one {w : World} {b off c n : Nat} {l : List Int} (h : Rd w (.slice (if c = 1 then some ⟨b, off, none⟩ else some ⟨b, off + 1, none⟩) n (c - 1)) l) (hc : c = 1) : Rd w (.slice (some ⟨b, off, none⟩) n 0) l := by subst hc; simpa using h
theorem tail_more {w : World} {b off c n : Nat} {l : List Int} (h : Rd w (.slice (if c = 1 then some ⟨b, off, none⟩ else some ⟨b, off + 1, none⟩) n (c - 1)) l) (hc : ¬ c = 1) : Rd w (.slice (some ⟨b, off + 1, none⟩) n (c - 1)) l := by rw [if_neg hc] at h; exact h

set_option maxHeartbeats 1000000 in
theorem elimination_any (p : Int) (u1 u2 : Value) (t b : List Int) (w : World) (h1 : Rd w u1 t) (h2 : Rd w u2 b) (t0 : 0 < t.length) (b0 : 0 < b.length) :
    Calls Try.prog 109 #[.agg #[.int .i64 p], .agg #[u1, u2]] w (BehindOut w u1 u2 t.tail b.tail) := by
  obtain ⟨x1, o1, c1, rfl, hl1, hm1, hc1⟩ := h1.at t0
  obtain ⟨x2, o2, c2, rfl, hl2, hm2, hc2⟩ := h2.at b0
  obtain ⟨n1, e1⟩ : ∃ n, t.length = n + 1 := ⟨t.length - 1, by omega⟩
  obtain ⟨n2, e2⟩ : ∃ n, b.length = n + 1 := ⟨b.length - 1, by omega⟩
  have g1 := Rd.tail e1 hl1 hm1 hc1
  have g2 := Rd.tail e2 hl2 hm2 hc2
  unfold maxLen at hm1 hm2
  rw [e1] at hl1 ⊢; rw [e2] at hl2 ⊢
  have G1 := Lib.hid g1; have G2 := Lib.hid g2
  clear h1 h2 g1 g2 hc1 hc2
  go_enter Try.func109, Try.ntmps109
  go_wp2_with fail
  go_region
  go_wp2
  all_goals exact bodyPost_ret (results_w4 _ (by kernel_rfl) _ _ (w.heap.size + 1 + 1) _ _ (Box2.at2 51 w _ _ _ _) rfl) rfl ⟨_, _, rfl, (Rd.below (by first | exact tail_one G1.out (by assumption) | exact tail_more G1.out (by assumption)) (below3 w _ _ _).drew), (Rd.below (by first | exact tail_one G2.out rfl | exact tail_one G2.out (by assumption) | exact tail_more G2.out (by assumption)) (below3 w _ _ _).drew), (below3 w _ _ _).drew, fun b hb => .inl hb, fun b hb => .inr (.inl hb)⟩

theorem litD1 (W : World) (y : Int) : Rd ((W.alloc (.cells #[.int .i64 y] 3)).drew) (.slice (some ⟨W.heap.size, 0, none⟩) 1 1) [y] := (Own.rd (Own.lit1 0 W y (Nat.zero_le _))).drewN 1
theorem litD2 (W : World) (x y : Int) : Rd ((W.alloc (.cells #[.int .i64 x, .int .i64 y] 3)).drew) (.slice (some ⟨W.heap.size, 0, none⟩) 2 2) [x, y] := (Own.rd (Own.lit2 0 W x y (Nat.zero_le _))).drewN 1
theorem Own.upD {W w1 : World} {o : Obj} {v : Value} {l : List Int} (h : Own ((W.alloc o).drew).heap.size w1 v l) : Own W.heap.size w1 v l := h.mono (Nat.le_of_lt (alloc_lt W o))
theorem Below.upD {w W w1 : World} {o : Obj} (h : Below w.heap.size w W) (hb : Below ((W.alloc o).drew).heap.size ((W.alloc o).drew) w1) : Below w.heap.size w w1 := Below.step (Below.allocS h o).drew hb
theorem Box2.upD {T : TypeId} {W w1 : World} {o : Obj} {g : Nat} {v1 v2 : Value} (h : Box2 T W g v1 v2) (hb : Below ((W.alloc o).drew).heap.size ((W.alloc o).drew) w1) : Box2 T w1 g v1 v2 := (h.below (Below.alloc1 W o).drew).below hb
theorem Rd.upD {W w1 : World} {o : Obj} {v : Value} {l : List Int} (h : Rd (W.alloc o) v l) (hb : Below ((W.alloc o).drew).heap.size ((W.alloc o).drew) w1) : Rd w1 v l := Rd.below (w := (W.alloc o).drew) h hb
theorem litDD1a (W : World) (y : Int) (o : Obj) : Rd (((W.alloc (.cells #[.int .i64 y] 3)).alloc o).drew) (.slice (some ⟨W.heap.size, 0, none⟩) 1 1) [y] := ((Own.rd (Own.lit1 0 W y (Nat.zero_le _))).below (Below.alloc1 _ o)).drewN 1
theorem litDD1b (W : World) (y : Int) (o : Obj) : Rd (((W.alloc o).alloc (.cells #[.int .i64 y] 3)).drew) (.slice (some ⟨W.heap.size + 1, 0, none⟩) 1 1) [y] := by
  have h := Own.rd (Own.lit1 0 (W.alloc o) y (Nat.zero_le _))
  rw [World.size_alloc] at h; exact h.drewN 1
theorem Own.upDD {W w1 : World} {o o' : Obj} {v : Value} {l : List Int} (h : Own (((W.alloc o).alloc o').drew).heap.size w1 v l) : Own W.heap.size w1 v l := h.mono (Nat.le_trans (Nat.le_of_lt (alloc_lt W o)) (Nat.le_of_lt (alloc_lt (W.alloc o) o')))
theorem Below.upDD {w W w1 : World} {o o' : Obj} (h : Below w.heap.size w W) (hb : Below (((W.alloc o).alloc o').drew).heap.size (((W.alloc o).alloc o').drew) w1) : Below w.heap.size w w1 := Below.step (Below.allocS (Below.allocS h o) o').drew hb
theorem Box2.upDD {T : TypeId} {W w1 : World} {o o' : Obj} {g : Nat} {v1 v2 : Value} (h : Box2 T W g v1 v2) (hb : Below (((W.alloc o).alloc o').drew).heap.size (((W.alloc o).alloc o').drew) w1) : Box2 T w1 g v1 v2 := (h.below (Below.step (Below.alloc1 W o) (Below.alloc1 _ o')).drew).below hb
theorem size_upD {W w1 : World} {o : Obj} (hb : Below ((W.alloc o).drew).heap.size ((W.alloc o).drew) w1) : W.heap.size ≤ w1.heap.size := Nat.le_trans (Nat.le_of_lt (alloc_lt W o)) hb.size
theorem size_upDD {W w1 : World} {o o' : Obj} (hb : Below (((W.alloc o).alloc o').drew).heap.size (((W.alloc o).alloc o').drew) w1) : W.heap.size ≤ w1.heap.size := Nat.le_trans (Nat.le_trans (Nat.le_of_lt (alloc_lt W o)) (Nat.le_of_lt (alloc_lt (W.alloc o) o'))) hb.size
theorem bh_keep {w w1 w2 : World} {g i j : Nat} {v0 v1 u1 u2 : Value} (h : Hid (Below w.heap.size w w1) ∧ w1.cell? ⟨g, i, none⟩ = some v0 ∧ w1.cell? ⟨g, j, none⟩ = some v1 ∧ w1.cell? ⟨g + 1, 0, none⟩ = some u1 ∧ w1.cell? ⟨g + 1, 1, none⟩ = some u2) (hb : Below w1.heap.size w1 w2) :
    Hid (Below w.heap.size w w2) ∧ w2.cell? ⟨g, i, none⟩ = some v0 ∧ w2.cell? ⟨g, j, none⟩ = some v1 ∧ w2.cell? ⟨g + 1, 0, none⟩ = some u1 ∧ w2.cell? ⟨g + 1, 1, none⟩ = some u2 := by
  have k : ∀ (a : Addr) v, w1.cell? a = some v → w2.cell? a = some v := fun a v hv => (hb.cell (World.block_lt_of_cell? w1 _ hv)).trans hv
  exact ⟨h.1.out.trans (hb.mono h.1.out.size), k _ _ h.2.1, k _ _ h.2.2.1, k _ _ h.2.2.2.1, k _ _ h.2.2.2.2⟩
theorem bh_out {w w1 : World} {g i j : Nat} {v0 v1 u1 u2 : Value} (h : Hid (Below w.heap.size w w1) ∧ w1.cell? ⟨g, i, none⟩ = some v0 ∧ w1.cell? ⟨g, j, none⟩ = some v1 ∧ w1.cell? ⟨g + 1, 0, none⟩ = some u1 ∧ w1.cell? ⟨g + 1, 1, none⟩ = some u2) : Below w.heap.size w w1 := h.1
theorem bh_alloc {w w1 : World} {g i j : Nat} {v0 v1 u1 u2 : Value} (h : Hid (Below w.heap.size w w1) ∧ w1.cell? ⟨g, i, none⟩ = some v0 ∧ w1.cell? ⟨g, j, none⟩ = some v1 ∧ w1.cell? ⟨g + 1, 0, none⟩ = some u1 ∧ w1.cell? ⟨g + 1, 1, none⟩ = some u2) (o : Obj) :
    Hid (Below w.heap.size w (w1.alloc o)) ∧ (w1.alloc o).cell? ⟨g, i, none⟩ = some v0 ∧ (w1.alloc o).cell? ⟨g, j, none⟩ = some v1 ∧ (w1.alloc o).cell? ⟨g + 1, 0, none⟩ = some u1 ∧ (w1.alloc o).cell? ⟨g + 1, 1, none⟩ = some u2 := bh_keep h (Below.alloc1 w1 o)
theorem bh_allocD {w w1 : World} {g i j : Nat} {v0 v1 u1 u2 : Value} (h : Hid (Below w.heap.size w w1.drew) ∧ w1.drew.cell? ⟨g, i, none⟩ = some v0 ∧ w1.drew.cell? ⟨g, j, none⟩ = some v1 ∧ w1.drew.cell? ⟨g + 1, 0, none⟩ = some u1 ∧ w1.drew.cell? ⟨g + 1, 1, none⟩ = some u2) (o : Obj) :
    Hid (Below w.heap.size w (w1.alloc o).drew) ∧ (w1.alloc o).drew.cell? ⟨g, i, none⟩ = some v0 ∧ (w1.alloc o).drew.cell? ⟨g, j, none⟩ = some v1 ∧ (w1.alloc o).drew.cell? ⟨g + 1, 0, none⟩ = some u1 ∧ (w1.alloc o).drew.cell? ⟨g + 1, 1, none⟩ = some u2 := bh_keep (w2 := w1.drew.alloc o) h (Below.alloc1 w1.drew o)
theorem bh_set {w w1 : World} {i j : Nat} {v0 v1 u1 u2 : Value} (h : Hid (Below w.heap.size w w1) ∧ w1.cell? ⟨w.heap.size, i, none⟩ = some v0 ∧ w1.cell? ⟨w.heap.size, j, none⟩ = some v1 ∧ w1.cell? ⟨w.heap.size + 1, 0, none⟩ = some u1 ∧ w1.cell? ⟨w.heap.size + 1, 1, none⟩ = some u2) (x y : Value) :
    Hid (Below w.heap.size w ((w1.setCell ⟨w.heap.size + 1 + 1, 0, none⟩ x).setCell ⟨w.heap.size + 1 + 1, 1, none⟩ y)) ∧ ((w1.setCell ⟨w.heap.size + 1 + 1, 0, none⟩ x).setCell ⟨w.heap.size + 1 + 1, 1, none⟩ y).cell? ⟨w.heap.size, i, none⟩ = some v0 ∧ ((w1.setCell ⟨w.heap.size + 1 + 1, 0, none⟩ x).setCell ⟨w.heap.size + 1 + 1, 1, none⟩ y).cell? ⟨w.heap.size, j, none⟩ = some v1 ∧ ((w1.setCell ⟨w.heap.size + 1 + 1, 0, none⟩ x).setCell ⟨w.heap.size + 1 + 1, 1, none⟩ y).cell? ⟨w.heap.size + 1, 0, none⟩ = some u1 ∧ ((w1.setCell ⟨w.heap.size + 1 + 1, 0, none⟩ x).setCell ⟨w.heap.size + 1 + 1, 1, none⟩ y).cell? ⟨w.heap.size + 1, 1, none⟩ = some u2 := by
  have hb : Below (w.heap.size + 1 + 1) w1 ((w1.setCell ⟨w.heap.size + 1 + 1, 0, none⟩ x).setCell ⟨w.heap.size + 1 + 1, 1, none⟩ y) := ((Below.refl _ w1).setCell (p := ⟨w.heap.size + 1 + 1, 0, none⟩) (Nat.le_refl _) x).setCell (p := ⟨w.heap.size + 1 + 1, 1, none⟩) (Nat.le_refl _) y
  have hB := (h.1.out.setCell (p := ⟨w.heap.size + 1 + 1, 0, none⟩) (by show _ ≤ w.heap.size + 1 + 1; omega) x).setCell (p := ⟨w.heap.size + 1 + 1, 1, none⟩) (by show _ ≤ w.heap.size + 1 + 1; omega) y
  have k : ∀ (a : Addr) v, a.block < w.heap.size + 1 + 1 → w1.cell? a = some v → ((w1.setCell ⟨w.heap.size + 1 + 1, 0, none⟩ x).setCell ⟨w.heap.size + 1 + 1, 1, none⟩ y).cell? a = some v := fun a v ha hv => (hb.cell ha).trans hv
  exact ⟨hB, k _ _ (by show w.heap.size < _; omega) h.2.1, k _ _ (by show w.heap.size < _; omega) h.2.2.1, k _ _ (by show w.heap.size + 1 < _; omega) h.2.2.2.1, k _ _ (by show w.heap.size + 1 < _; omega) h.2.2.2.2⟩
theorem beh_one {w W w1 : World} {x1 : Option Addr} {y1 z1 : Nat} {v2 : Value} {l1 l2 : List Int} (HO : Own W.heap.size w1 (.slice x1 y1 z1) l1) (hg : w.heap.size + 1 + 1 < W.heap.size) (HB : Below w.heap.size w w1) (G : Rd w v2 l2) {u1 u2 : Value} (hv : ∀ b, v2.ownBlock = some b → u2.ownBlock = some b) :
    BehindOut w u1 u2 l1 l2 (.returned (.agg #[.slice x1 y1 z1, v2])) ((w1.setCell ⟨w.heap.size + 1 + 1, 0, none⟩ (.slice x1 y1 z1)).setCell ⟨w.heap.size + 1 + 1, 1, none⟩ v2) :=
  have hb := (HB.setCell (p := ⟨w.heap.size + 1 + 1, 0, none⟩) (by show _ ≤ w.heap.size + 1 + 1; omega) (.slice x1 y1 z1)).setCell (p := ⟨w.heap.size + 1 + 1, 1, none⟩) (by show _ ≤ w.heap.size + 1 + 1; omega) v2
  ⟨_, _, rfl, (HO.set2 hg _ _).rd, G.below hb, hb, fun k hk => .inr (.inr (by have := (HO.lt k hk).1; omega)), fun k hk => .inr (.inl (hv k hk))⟩
set_option maxHeartbeats 1000000 in
theorem blockElimination_any (y : Int) (u1 u2 : Value) (t b : List Int) (w : World) (h1 : Rd w u1 t) (h2 : Rd w u2 b) (t0 : 0 < t.length) (b0 : 0 < b.length) (hl : t.length ≤ 20) :
    Calls Try.prog 113 #[.agg #[.int .i64 y], .agg #[u1, u2]] w (BehindOut w u1 u2 (y :: t.tail) b.tail) := by
  have c1 : ∀ W s (xs : List Int), Below w.heap.size w W → Rd W s xs → xs.length ≤ 1000 → Calls Try.prog 112 #[u1, s] W (Made W (xs ++ t.tail)) := fun W s xs hb hs hx => firstReplaced_any u1 s t xs W (h1.below hb) hs t0 (by omega) hx
  have C1 := Lib.hid c1
  obtain ⟨x1, o1, d1, rfl, hl1, hm1, hc1⟩ := h1.at t0
  obtain ⟨x2, o2, d2, rfl, hl2, hm2, hc2⟩ := h2.at b0
  obtain ⟨n1, e1⟩ : ∃ n, t.length = n + 1 := ⟨t.length - 1, by omega⟩
  obtain ⟨n2, e2⟩ : ∃ n, b.length = n + 1 := ⟨b.length - 1, by omega⟩
  have g2 := Rd.tail e2 hl2 hm2 hc2
  unfold maxLen at hm1 hm2
  rw [e1] at hl1 C1 ⊢; rw [e2] at hl2 ⊢
  have G2 := Lib.hid g2
  have HB3 := Lib.hid (below3 w (.cells #[.int .i64 y] 96) (.cells #[.slice (some ⟨x1, o1, none⟩) (n1 + 1) d1, .slice (some ⟨x2, o2, none⟩) (n2 + 1) d2] 51) (.cells #[.slice none 0 0, .slice none 0 0] 51))
  have HA := Lib.hid (Box2.below (Box2.at1 51 w (.cells #[.int .i64 y] 96) (.slice (some ⟨x1, o1, none⟩) (n1 + 1) d1) (.slice (some ⟨x2, o2, none⟩) (n2 + 1) d2)) (Below.alloc1 _ (.cells #[.slice none 0 0, .slice none 0 0] 51)))
  have HR := Lib.hid (Box2.at2 51 w (.cells #[.int .i64 y] 96) (.cells #[.slice (some ⟨x1, o1, none⟩) (n1 + 1) d1, .slice (some ⟨x2, o2, none⟩) (n2 + 1) d2] 51) (.slice none 0 0) (.slice none 0 0))
  have k0 := Lib.hid (cell_deep (w := w) (cs := #[.int .i64 y]) (T := 96) (o2 := .cells #[.slice (some ⟨x1, o1, none⟩) (n1 + 1) d1, .slice (some ⟨x2, o2, none⟩) (n2 + 1) d2] 51) (o3 := .cells #[.slice none 0 0, .slice none 0 0] 51) (i := 0) rfl); have k1 := Lib.hid (cell_deep (w := w) (cs := #[.int .i64 y]) (T := 96) (o2 := .cells #[.slice (some ⟨x1, o1, none⟩) (n1 + 1) d1, .slice (some ⟨x2, o2, none⟩) (n2 + 1) d2] 51) (o3 := .cells #[.slice none 0 0, .slice none 0 0] 51) (i := 0) rfl)
  clear h1 h2 g2 hc1 hc2 c1
  have i1 : (1 : Int) ≤ (n2 : Int) + 1 := by omega
  have i2 : (n2 : Int) + 1 ≤ (d2 : Int) := by omega
  have i3 : (1 : Int) ≤ (d2 : Int) := by omega
  have i4 : (0 : Int) ≤ (n2 : Int) + 1 := by omega
  have i5 : (0 : Int) ≤ (d2 : Int) := by omega
  by_cases hd2 : d2 = 1
  · subst hd2
    go_enter Try.func113, Try.ntmps113
    go_wp2_with fail
    generalize (((w.alloc (.cells #[.int .i64 y] 96)).alloc (.cells #[.slice (some ⟨x1, o1, none⟩) (n1 + 1) d1, .slice (some ⟨x2, o2, none⟩) (n2 + 1) 1] 51)).alloc (.cells #[.slice none 0 0, .slice none 0 0] 51)) = W at *
    have hS : Hid (Below w.heap.size w W.drew) ∧ W.drew.cell? ⟨w.heap.size, 0, none⟩ = some (.int .i64 y) ∧ W.drew.cell? ⟨w.heap.size, 0, none⟩ = some (.int .i64 y) ∧ W.drew.cell? ⟨w.heap.size + 1, 0, none⟩ = some (.slice (some ⟨x1, o1, none⟩) (n1 + 1) d1) ∧ W.drew.cell? ⟨w.heap.size + 1, 1, none⟩ = some (.slice (some ⟨x2, o2, none⟩) (n2 + 1) 1) := ⟨HB3.out.drew, k0.out, k1.out, HA.out.c0, HA.out.c1⟩
    go_region_held3 (fun w' => Hid (Below w.heap.size w w') ∧ w'.cell? ⟨w.heap.size, 0, none⟩ = some (.int .i64 y) ∧ w'.cell? ⟨w.heap.size, 0, none⟩ = some (.int .i64 y) ∧ w'.cell? ⟨w.heap.size + 1, 0, none⟩ = some (.slice (some ⟨x1, o1, none⟩) (n1 + 1) d1) ∧ w'.cell? ⟨w.heap.size + 1, 1, none⟩ = some (.slice (some ⟨x2, o2, none⟩) (n2 + 1) 1))
      (first | assumption | exact bh_keep (by assumption) (by assumption) | exact bh_allocD (by assumption) _ | exact bh_alloc (by assumption) _ | exact bh_set (by assumption) _ _)
      (first
        | (go_at_call 112; ((with_reducible refine (C1.out _ _ [y] (bh_out (by assumption)) (litD1 W y) (Nat.le_of_ble_eq_true rfl)).mono ?_); rintro e w1 ⟨v1, rfl, ho1, hb1⟩; obtain ⟨z1, y1, q1, rfl⟩ := ho1.form'; have HO1 := Lib.hid (Own.upD ho1); have HB4 := Lib.hid (Below.upD HB3.out hb1); have hR := Box2.upD HR.out hb1; have r0 := hR.c0; have r1 := hR.c1; have r2 := hR.free 0; have r3 := hR.free 1; have HR4 := Lib.hid hR; clear ho1 hR)))
    all_goals
      go_wp2
      exact bodyPost_ret (results_w4 _ (by kernel_rfl) _ _ (w.heap.size + 1 + 1) _ _ ((HR4.out.set0 _).set1 _) rfl) rfl (beh_one HO1.out HR.out.lt HB4.out (by first | exact tail_one G2.out rfl | (have hh := G2.out; simpa using hh) | exact tail_more G2.out (by assumption) | (have hh := G2.out; have hz : n2 = 0 := (by omega); subst hz; simpa using hh)) (fun b hb => hb))
  · go_enter Try.func113, Try.ntmps113
    go_wp2_with fail
    generalize (((w.alloc (.cells #[.int .i64 y] 96)).alloc (.cells #[.slice (some ⟨x1, o1, none⟩) (n1 + 1) d1, .slice (some ⟨x2, o2, none⟩) (n2 + 1) d2] 51)).alloc (.cells #[.slice none 0 0, .slice none 0 0] 51)) = W at *
    have hS : Hid (Below w.heap.size w W.drew) ∧ W.drew.cell? ⟨w.heap.size, 0, none⟩ = some (.int .i64 y) ∧ W.drew.cell? ⟨w.heap.size, 0, none⟩ = some (.int .i64 y) ∧ W.drew.cell? ⟨w.heap.size + 1, 0, none⟩ = some (.slice (some ⟨x1, o1, none⟩) (n1 + 1) d1) ∧ W.drew.cell? ⟨w.heap.size + 1, 1, none⟩ = some (.slice (some ⟨x2, o2, none⟩) (n2 + 1) d2) := ⟨HB3.out.drew, k0.out, k1.out, HA.out.c0, HA.out.c1⟩
    go_region_held3 (fun w' => Hid (Below w.heap.size w w') ∧ w'.cell? ⟨w.heap.size, 0, none⟩ = some (.int .i64 y) ∧ w'.cell? ⟨w.heap.size, 0, none⟩ = some (.int .i64 y) ∧ w'.cell? ⟨w.heap.size + 1, 0, none⟩ = some (.slice (some ⟨x1, o1, none⟩) (n1 + 1) d1) ∧ w'.cell? ⟨w.heap.size + 1, 1, none⟩ = some (.slice (some ⟨x2, o2, none⟩) (n2 + 1) d2))
      (first | assumption | exact bh_keep (by assumption) (by assumption) | exact bh_allocD (by assumption) _ | exact bh_alloc (by assumption) _ | exact bh_set (by assumption) _ _)
      (first
        | (go_at_call 112; ((with_reducible refine (C1.out _ _ [y] (bh_out (by assumption)) (litD1 W y) (Nat.le_of_ble_eq_true rfl)).mono ?_); rintro e w1 ⟨v1, rfl, ho1, hb1⟩; obtain ⟨z1, y1, q1, rfl⟩ := ho1.form'; have HO1 := Lib.hid (Own.upD ho1); have HB4 := Lib.hid (Below.upD HB3.out hb1); have hR := Box2.upD HR.out hb1; have r0 := hR.c0; have r1 := hR.c1; have r2 := hR.free 0; have r3 := hR.free 1; have HR4 := Lib.hid hR; clear ho1 hR)))
    all_goals
      go_wp2
      exact bodyPost_ret (results_w4 _ (by kernel_rfl) _ _ (w.heap.size + 1 + 1) _ _ ((HR4.out.set0 _).set1 _) rfl) rfl (beh_one HO1.out HR.out.lt HB4.out (by first | exact tail_one G2.out rfl | (have hh := G2.out; simpa using hh) | exact tail_more G2.out (by assumption) | (have hh := G2.out; have hz : n2 = 0 := (by omega); subst hz; simpa using hh)) (fun b hb => hb))
set_option maxHeartbeats 1000000 in
theorem contraction_any (x y : Int) (hx0 : 0 ≤ x) (hx1 : x ≤ 1000) (hy0 : 0 ≤ y) (hy1 : y ≤ 1000) (u1 u2 : Value) (t b : List Int) (w : World) (h1 : Rd w u1 t) (h2 : Rd w u2 b) (t0 : 0 < t.length) (b0 : 0 < b.length) (hl : t.length ≤ 20) :
    Calls Try.prog 114 #[.agg #[.int .i64 x, .int .i64 y], .agg #[u1, u2]] w (BehindOut w u1 u2 ((x - 2 * y) :: y :: t.tail) b.tail) := by
  have c1 : ∀ W s (xs : List Int), Below w.heap.size w W → Rd W s xs → xs.length ≤ 1000 → Calls Try.prog 112 #[u1, s] W (Made W (xs ++ t.tail)) := fun W s xs hb hs hx => firstReplaced_any u1 s t xs W (h1.below hb) hs t0 (by omega) hx
  have C1 := Lib.hid c1
  obtain ⟨x1, o1, d1, rfl, hl1, hm1, hc1⟩ := h1.at t0
  obtain ⟨x2, o2, d2, rfl, hl2, hm2, hc2⟩ := h2.at b0
  obtain ⟨n1, e1⟩ : ∃ n, t.length = n + 1 := ⟨t.length - 1, by omega⟩
  obtain ⟨n2, e2⟩ : ∃ n, b.length = n + 1 := ⟨b.length - 1, by omega⟩
  have g2 := Rd.tail e2 hl2 hm2 hc2
  unfold maxLen at hm1 hm2
  rw [e1] at hl1 C1 ⊢; rw [e2] at hl2 ⊢
  have G2 := Lib.hid g2
  have HB3 := Lib.hid (below3 w (.cells #[.int .i64 x, .int .i64 y] 97) (.cells #[.slice (some ⟨x1, o1, none⟩) (n1 + 1) d1, .slice (some ⟨x2, o2, none⟩) (n2 + 1) d2] 51) (.cells #[.slice none 0 0, .slice none 0 0] 51))
  have HA := Lib.hid (Box2.below (Box2.at1 51 w (.cells #[.int .i64 x, .int .i64 y] 97) (.slice (some ⟨x1, o1, none⟩) (n1 + 1) d1) (.slice (some ⟨x2, o2, none⟩) (n2 + 1) d2)) (Below.alloc1 _ (.cells #[.slice none 0 0, .slice none 0 0] 51)))
  have HR := Lib.hid (Box2.at2 51 w (.cells #[.int .i64 x, .int .i64 y] 97) (.cells #[.slice (some ⟨x1, o1, none⟩) (n1 + 1) d1, .slice (some ⟨x2, o2, none⟩) (n2 + 1) d2] 51) (.slice none 0 0) (.slice none 0 0))
  have k0 := Lib.hid (cell_deep (w := w) (cs := #[.int .i64 x, .int .i64 y]) (T := 97) (o2 := .cells #[.slice (some ⟨x1, o1, none⟩) (n1 + 1) d1, .slice (some ⟨x2, o2, none⟩) (n2 + 1) d2] 51) (o3 := .cells #[.slice none 0 0, .slice none 0 0] 51) (i := 0) rfl); have k1 := Lib.hid (cell_deep (w := w) (cs := #[.int .i64 x, .int .i64 y]) (T := 97) (o2 := .cells #[.slice (some ⟨x1, o1, none⟩) (n1 + 1) d1, .slice (some ⟨x2, o2, none⟩) (n2 + 1) d2] 51) (o3 := .cells #[.slice none 0 0, .slice none 0 0] 51) (i := 1) rfl)
  clear h1 h2 g2 hc1 hc2 c1
  have j1 : IntKind.i64.wrap (2 * y) = 2 * y := IntWalk.i64_in _ (by omega)
  have j2 : IntKind.i64.wrap (x - 2 * y) = x - 2 * y := IntWalk.i64_in _ (by omega)
  have i1 : (1 : Int) ≤ (n2 : Int) + 1 := by omega
  have i2 : (n2 : Int) + 1 ≤ (d2 : Int) := by omega
  have i3 : (1 : Int) ≤ (d2 : Int) := by omega
  have i4 : (0 : Int) ≤ (n2 : Int) + 1 := by omega
  have i5 : (0 : Int) ≤ (d2 : Int) := by omega
  by_cases hd2 : d2 = 1
  · subst hd2
    go_enter Try.func114, Try.ntmps114
    go_wp2_with fail
    generalize (((w.alloc (.cells #[.int .i64 x, .int .i64 y] 97)).alloc (.cells #[.slice (some ⟨x1, o1, none⟩) (n1 + 1) d1, .slice (some ⟨x2, o2, none⟩) (n2 + 1) 1] 51)).alloc (.cells #[.slice none 0 0, .slice none 0 0] 51)) = W at *
    have hS : Hid (Below w.heap.size w W.drew) ∧ W.drew.cell? ⟨w.heap.size, 0, none⟩ = some (.int .i64 x) ∧ W.drew.cell? ⟨w.heap.size, 1, none⟩ = some (.int .i64 y) ∧ W.drew.cell? ⟨w.heap.size + 1, 0, none⟩ = some (.slice (some ⟨x1, o1, none⟩) (n1 + 1) d1) ∧ W.drew.cell? ⟨w.heap.size + 1, 1, none⟩ = some (.slice (some ⟨x2, o2, none⟩) (n2 + 1) 1) := ⟨HB3.out.drew, k0.out, k1.out, HA.out.c0, HA.out.c1⟩
    go_region_held3 (fun w' => Hid (Below w.heap.size w w') ∧ w'.cell? ⟨w.heap.size, 0, none⟩ = some (.int .i64 x) ∧ w'.cell? ⟨w.heap.size, 1, none⟩ = some (.int .i64 y) ∧ w'.cell? ⟨w.heap.size + 1, 0, none⟩ = some (.slice (some ⟨x1, o1, none⟩) (n1 + 1) d1) ∧ w'.cell? ⟨w.heap.size + 1, 1, none⟩ = some (.slice (some ⟨x2, o2, none⟩) (n2 + 1) 1))
      (first | assumption | exact bh_keep (by assumption) (by assumption) | exact bh_allocD (by assumption) _ | exact bh_alloc (by assumption) _ | exact bh_set (by assumption) _ _)
      (first
        | (go_at_call 112; ((with_reducible refine (C1.out _ _ [x - 2 * y, y] (bh_out (by assumption)) (litD2 W (x - 2 * y) y) (Nat.le_of_ble_eq_true rfl)).mono ?_); rintro e w1 ⟨v1, rfl, ho1, hb1⟩; obtain ⟨z1, y1, q1, rfl⟩ := ho1.form'; have HO1 := Lib.hid (Own.upD ho1); have HB4 := Lib.hid (Below.upD HB3.out hb1); have hR := Box2.upD HR.out hb1; have r0 := hR.c0; have r1 := hR.c1; have r2 := hR.free 0; have r3 := hR.free 1; have HR4 := Lib.hid hR; clear ho1 hR)))
    all_goals
      go_wp2
      exact bodyPost_ret (results_w4 _ (by kernel_rfl) _ _ (w.heap.size + 1 + 1) _ _ ((HR4.out.set0 _).set1 _) rfl) rfl (beh_one HO1.out HR.out.lt HB4.out (by first | exact tail_one G2.out rfl | (have hh := G2.out; simpa using hh) | exact tail_more G2.out (by assumption) | (have hh := G2.out; have hz : n2 = 0 := (by omega); subst hz; simpa using hh)) (fun b hb => hb))
  · go_enter Try.func114, Try.ntmps114
    go_wp2_with fail
    generalize (((w.alloc (.cells #[.int .i64 x, .int .i64 y] 97)).alloc (.cells #[.slice (some ⟨x1, o1, none⟩) (n1 + 1) d1, .slice (some ⟨x2, o2, none⟩) (n2 + 1) d2] 51)).alloc (.cells #[.slice none 0 0, .slice none 0 0] 51)) = W at *
    have hS : Hid (Below w.heap.size w W.drew) ∧ W.drew.cell? ⟨w.heap.size, 0, none⟩ = some (.int .i64 x) ∧ W.drew.cell? ⟨w.heap.size, 1, none⟩ = some (.int .i64 y) ∧ W.drew.cell? ⟨w.heap.size + 1, 0, none⟩ = some (.slice (some ⟨x1, o1, none⟩) (n1 + 1) d1) ∧ W.drew.cell? ⟨w.heap.size + 1, 1, none⟩ = some (.slice (some ⟨x2, o2, none⟩) (n2 + 1) d2) := ⟨HB3.out.drew, k0.out, k1.out, HA.out.c0, HA.out.c1⟩
    go_region_held3 (fun w' => Hid (Below w.heap.size w w') ∧ w'.cell? ⟨w.heap.size, 0, none⟩ = some (.int .i64 x) ∧ w'.cell? ⟨w.heap.size, 1, none⟩ = some (.int .i64 y) ∧ w'.cell? ⟨w.heap.size + 1, 0, none⟩ = some (.slice (some ⟨x1, o1, none⟩) (n1 + 1) d1) ∧ w'.cell? ⟨w.heap.size + 1, 1, none⟩ = some (.slice (some ⟨x2, o2, none⟩) (n2 + 1) d2))
      (first | assumption | exact bh_keep (by assumption) (by assumption) | exact bh_allocD (by assumption) _ | exact bh_alloc (by assumption) _ | exact bh_set (by assumption) _ _)
      (first
        | (go_at_call 112; ((with_reducible refine (C1.out _ _ [x - 2 * y, y] (bh_out (by assumption)) (litD2 W (x - 2 * y) y) (Nat.le_of_ble_eq_true rfl)).mono ?_); rintro e w1 ⟨v1, rfl, ho1, hb1⟩; obtain ⟨z1, y1, q1, rfl⟩ := ho1.form'; have HO1 := Lib.hid (Own.upD ho1); have HB4 := Lib.hid (Below.upD HB3.out hb1); have hR := Box2.upD HR.out hb1; have r0 := hR.c0; have r1 := hR.c1; have r2 := hR.free 0; have r3 := hR.free 1; have HR4 := Lib.hid hR; clear ho1 hR)))
    all_goals
      go_wp2
      exact bodyPost_ret (results_w4 _ (by kernel_rfl) _ _ (w.heap.size + 1 + 1) _ _ ((HR4.out.set0 _).set1 _) rfl) rfl (beh_one HO1.out HR.out.lt HB4.out (by first | exact tail_one G2.out rfl | (have hh := G2.out; simpa using hh) | exact tail_more G2.out (by assumption) | (have hh := G2.out; have hz : n2 = 0 := (by omega); subst hz; simpa using hh)) (fun b hb => hb))
theorem beh_two {w W w2 : World} {v1 v2 u1 u2 : Value} {l1 l2 : List Int} (H1 : Own W.heap.size w2 v1 l1) (H2 : Own W.heap.size w2 v2 l2) (hg : w.heap.size + 1 + 1 < W.heap.size) (HB : Below w.heap.size w w2) :
    BehindOut w u1 u2 l1 l2 (.returned (.agg #[v1, v2])) ((w2.setCell ⟨w.heap.size + 1 + 1, 0, none⟩ v1).setCell ⟨w.heap.size + 1 + 1, 1, none⟩ v2) :=
  have hb := (HB.setCell (p := ⟨w.heap.size + 1 + 1, 0, none⟩) (by show _ ≤ w.heap.size + 1 + 1; omega) v1).setCell (p := ⟨w.heap.size + 1 + 1, 1, none⟩) (by show _ ≤ w.heap.size + 1 + 1; omega) v2
  ⟨_, _, rfl, (H1.set2 hg _ _).rd, (H2.set2 hg _ _).rd, hb, fun k hk => .inr (.inr (by have := (H1.lt k hk).1; omega)), fun k hk => .inr (.inr (by have := (H2.lt k hk).1; omega))⟩
set_option maxHeartbeats 2000000 in
theorem rotation_any (x y : Int) (hx0 : 0 ≤ x) (hx1 : x ≤ 1000) (hy0 : 0 ≤ y) (hy1 : y ≤ 1000) (u1 u2 : Value) (t b : List Int) (w : World) (h1 : Rd w u1 t) (h2 : Rd w u2 b) (t0 : 0 < t.length) (b0 : 0 < b.length) (hl : t.length ≤ 20) (hlb : b.length ≤ 20) :
    Calls Try.prog 111 #[.agg #[.int .i64 x, .int .i64 y], .agg #[u1, u2]] w (BehindOut w u1 u2 (y :: t.tail) ((2 * y - x) :: b.tail)) := by
  have c1 : ∀ W s (xs : List Int), Below w.heap.size w W → Rd W s xs → xs.length ≤ 1000 → Calls Try.prog 112 #[u1, s] W (Made W (xs ++ t.tail)) := fun W s xs hb hs hx => firstReplaced_any u1 s t xs W (h1.below hb) hs t0 (by omega) hx
  have c2 : ∀ W s (xs : List Int), Below w.heap.size w W → Rd W s xs → xs.length ≤ 1000 → Calls Try.prog 112 #[u2, s] W (Made W (xs ++ b.tail)) := fun W s xs hb hs hx => firstReplaced_any u2 s b xs W (h2.below hb) hs b0 (by omega) hx
  have C1 := Lib.hid c1; have C2 := Lib.hid c2
  obtain ⟨x1, o1, d1, rfl, hl1, hm1, hc1⟩ := h1.at t0
  obtain ⟨x2, o2, d2, rfl, hl2, hm2, hc2⟩ := h2.at b0
  obtain ⟨n1, e1⟩ : ∃ n, t.length = n + 1 := ⟨t.length - 1, by omega⟩
  obtain ⟨n2, e2⟩ : ∃ n, b.length = n + 1 := ⟨b.length - 1, by omega⟩
  unfold maxLen at hm1 hm2
  rw [e1] at hl1 C1 ⊢; rw [e2] at hl2 C2 ⊢
  have HB3 := Lib.hid (below3 w (.cells #[.int .i64 x, .int .i64 y] 94) (.cells #[.slice (some ⟨x1, o1, none⟩) (n1 + 1) d1, .slice (some ⟨x2, o2, none⟩) (n2 + 1) d2] 51) (.cells #[.slice none 0 0, .slice none 0 0] 51))
  have HA := Lib.hid (Box2.below (Box2.at1 51 w (.cells #[.int .i64 x, .int .i64 y] 94) (.slice (some ⟨x1, o1, none⟩) (n1 + 1) d1) (.slice (some ⟨x2, o2, none⟩) (n2 + 1) d2)) (Below.alloc1 _ (.cells #[.slice none 0 0, .slice none 0 0] 51)))
  have HR := Lib.hid (Box2.at2 51 w (.cells #[.int .i64 x, .int .i64 y] 94) (.cells #[.slice (some ⟨x1, o1, none⟩) (n1 + 1) d1, .slice (some ⟨x2, o2, none⟩) (n2 + 1) d2] 51) (.slice none 0 0) (.slice none 0 0))
  have k0 := Lib.hid (cell_deep (w := w) (cs := #[.int .i64 x, .int .i64 y]) (T := 94) (o2 := .cells #[.slice (some ⟨x1, o1, none⟩) (n1 + 1) d1, .slice (some ⟨x2, o2, none⟩) (n2 + 1) d2] 51) (o3 := .cells #[.slice none 0 0, .slice none 0 0] 51) (i := 0) rfl); have k1 := Lib.hid (cell_deep (w := w) (cs := #[.int .i64 x, .int .i64 y]) (T := 94) (o2 := .cells #[.slice (some ⟨x1, o1, none⟩) (n1 + 1) d1, .slice (some ⟨x2, o2, none⟩) (n2 + 1) d2] 51) (o3 := .cells #[.slice none 0 0, .slice none 0 0] 51) (i := 1) rfl)
  clear h1 h2 hc1 hc2 c1 c2
  have j1 : IntKind.i64.wrap (2 * y) = 2 * y := IntWalk.i64_in _ (by omega)
  have j2 : IntKind.i64.wrap (2 * y - x) = 2 * y - x := IntWalk.i64_in _ (by omega)
  go_enter Try.func111, Try.ntmps111
  go_wp2_with fail
  generalize (((w.alloc (.cells #[.int .i64 x, .int .i64 y] 94)).alloc (.cells #[.slice (some ⟨x1, o1, none⟩) (n1 + 1) d1, .slice (some ⟨x2, o2, none⟩) (n2 + 1) d2] 51)).alloc (.cells #[.slice none 0 0, .slice none 0 0] 51)) = W at *
  have hS : Hid (Below w.heap.size w W.drew) ∧ W.drew.cell? ⟨w.heap.size, 0, none⟩ = some (.int .i64 x) ∧ W.drew.cell? ⟨w.heap.size, 1, none⟩ = some (.int .i64 y) ∧ W.drew.cell? ⟨w.heap.size + 1, 0, none⟩ = some (.slice (some ⟨x1, o1, none⟩) (n1 + 1) d1) ∧ W.drew.cell? ⟨w.heap.size + 1, 1, none⟩ = some (.slice (some ⟨x2, o2, none⟩) (n2 + 1) d2) := ⟨HB3.out.drew, k0.out, k1.out, HA.out.c0, HA.out.c1⟩
  go_region_held3 (fun w' => Hid (Below w.heap.size w w') ∧ w'.cell? ⟨w.heap.size, 0, none⟩ = some (.int .i64 x) ∧ w'.cell? ⟨w.heap.size, 1, none⟩ = some (.int .i64 y) ∧ w'.cell? ⟨w.heap.size + 1, 0, none⟩ = some (.slice (some ⟨x1, o1, none⟩) (n1 + 1) d1) ∧ w'.cell? ⟨w.heap.size + 1, 1, none⟩ = some (.slice (some ⟨x2, o2, none⟩) (n2 + 1) d2))
    (first | assumption | exact bh_keep (by assumption) (by assumption) | exact bh_allocD (by assumption) _ | exact bh_alloc (by assumption) _ | exact bh_set (by assumption) _ _)
    (first
      | (go_at_call 112; ((with_reducible refine (C1.out _ _ [y] (bh_out (by assumption)) (litD1 W y) (Nat.le_of_ble_eq_true rfl)).mono ?_); rintro e w1 ⟨v1, rfl, ho1, hb1⟩; obtain ⟨z1, y1, q1, rfl⟩ := ho1.form'; have HO1 := Lib.hid (Own.upD ho1); have HB4 := Lib.hid (Below.upD HB3.out hb1); have HR1 := Lib.hid (Box2.upD HR.out hb1); have HZ1 := Lib.hid (size_upD hb1); clear ho1))
      | (go_at_call 112; ((with_reducible refine (C1.out _ _ [y] (bh_out (by assumption)) (litDD1a W y _) (Nat.le_of_ble_eq_true rfl)).mono ?_); rintro e w1 ⟨v1, rfl, ho1, hb1⟩; obtain ⟨z1, y1, q1, rfl⟩ := ho1.form'; have HO1 := Lib.hid (Own.upDD ho1); have HB4 := Lib.hid (Below.upDD HB3.out hb1); have HR1 := Lib.hid (Box2.upDD HR.out hb1); have HZ1 := Lib.hid (size_upDD hb1); have RZ := Lib.hid (Rd.below (litDD1b W (2 * y - x) _) hb1); clear ho1))
      | (go_at_call 112; ((with_reducible refine (C1.out _ _ [y] (bh_out (by assumption)) (litDD1b W y _) (Nat.le_of_ble_eq_true rfl)).mono ?_); rintro e w1 ⟨v1, rfl, ho1, hb1⟩; obtain ⟨z1, y1, q1, rfl⟩ := ho1.form'; have HO1 := Lib.hid (Own.upDD ho1); have HB4 := Lib.hid (Below.upDD HB3.out hb1); have HR1 := Lib.hid (Box2.upDD HR.out hb1); have HZ1 := Lib.hid (size_upDD hb1); have RZ := Lib.hid (Rd.below (litDD1a W (2 * y - x) _) hb1); clear ho1))
      | (go_at_call 112; ((with_reducible refine (C2.out _ _ [2 * y - x] (bh_out (by assumption)) (RZ.out) (Nat.le_of_ble_eq_true rfl)).mono ?_); rintro e w2 ⟨v2, rfl, ho2, hb2⟩; obtain ⟨z2, y2, q2, rfl⟩ := ho2.form'; have HP1 := Lib.hid (Own.below HO1.out hb2); have HP2 := Lib.hid (ho2.mono HZ1.out); have HB5 := Lib.hid (Below.step HB4.out hb2); have hR := (HR1.out.below hb2); have r0 := hR.c0; have r1 := hR.c1; have r2 := hR.free 0; have r3 := hR.free 1; have HR4 := Lib.hid hR; clear ho2 hR))
      | (go_at_call 112; ((with_reducible refine (C2.out _ _ [2 * y - x] (bh_out (by assumption)) (Own.rd (Own.lit1 0 w1 (2 * y - x) (Nat.zero_le _))) (Nat.le_of_ble_eq_true rfl)).mono ?_); rintro e w2 ⟨v2, rfl, ho2, hb2⟩; obtain ⟨z2, y2, q2, rfl⟩ := ho2.form'; have HP1 := Lib.hid (Own.below (Own.below HO1.out (Below.alloc1 w1 _)) hb2); have HP2 := Lib.hid (ho2.mono (Nat.le_trans HZ1.out (Nat.le_of_lt (alloc_lt w1 _)))); have HB5 := Lib.hid (Below.step (Below.allocS HB4.out _) hb2); have hR := ((HR1.out.below (Below.alloc1 w1 _)).below hb2); have r0 := hR.c0; have r1 := hR.c1; have r2 := hR.free 0; have r3 := hR.free 1; have HR4 := Lib.hid hR; clear ho2 hR)))
  all_goals
    go_wp2
    exact bodyPost_ret (results_w4 _ (by kernel_rfl) _ _ (w.heap.size + 1 + 1) _ _ ((HR4.out.set0 _).set1 _) rfl) rfl (beh_two HP1.out HP2.out HR.out.lt HB5.out)
end Go.Proofs.Ytllhdmpnjcemkab
