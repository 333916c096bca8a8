/- The joins of points: the first two that cross; open words and closed ones. -/
import Derived.Test.YtkohmdhjjnmfgabWdCross
import Derived.Deep.RegionWith
namespace Go.Proofs.Ytkohmdhjjnmfgab
open Go.RowKit
set_option linter.unusedSimpArgs false
set_option linter.unusedVariables false

theorem results_join (tmps : Array Value) (w : World) (g : Nat) (x y : Value) (hg : w.heap[g]? = some (.cells #[x, y] 99 (0, 0))) (h2 : tmps.getD 4 undef = .pointer (some ⟨g, 0, none⟩)) :
    (results Try.f90 tmps).run Try.prog w = .ok (.agg #[x, y]) w := by
  have h2' : tmps[4]?.getD undef = .pointer (some ⟨g, 0, none⟩) := by simpa using h2
  have hr : Try.f90.results = #[.cell 4 99] := by kernel_rfl
  simp [results, hr, h2', asAddr, run_loadSpan w g x y hg]

/-- the points at the ends of the join at i -/
def jnA (p : List Int) (i : Nat) : Int := p.getD i 0
def jnB (p : List Int) (i : Nat) : Int := p.getD ((i + 1) % p.length) 0

def SpIn (w : World) (g : Nat) (x y : Value) : Prop := w.heap[g]? = some (.cells #[x, y] 99 (0, 0))
theorem SpIn.lt {w : World} {g : Nat} {x y : Value} (h : SpIn w g x y) : g < w.heap.size := (Array.getElem?_eq_some_iff.1 h).1
theorem SpIn.below {w w' : World} {g : Nat} {x y : Value} (h : SpIn w g x y) (hb : Below w.heap.size w w') : SpIn w' g x y := (hb.block g h.lt).trans h
theorem SpIn.c0 {w : World} {g : Nat} {x y : Value} (h : SpIn w g x y) : w.cell? ⟨g, 0, none⟩ = some x := by rw [cell_of_row w g 0 _ _ _ h]; rfl
theorem SpIn.c1 {w : World} {g : Nat} {x y : Value} (h : SpIn w g x y) : w.cell? ⟨g, 1, none⟩ = some y := by rw [cell_of_row w g 1 _ _ _ h]; rfl
theorem SpIn.free {w : World} {g : Nat} {x y : Value} (h : SpIn w g x y) (k : Nat) : w.frozen? ⟨g, k, none⟩ = false := frozen_of_row w g k _ _ h
theorem SpIn.set {w : World} {g : Nat} {x y : Value} (h : SpIn w g x y) (a b : Value) : SpIn ((w.setCell ⟨g, 0, none⟩ a).setCell ⟨g, 1, none⟩ b) g a b := by
  have h1 := heap_setCell_same w g 0 _ _ a h
  have h2 := heap_setCell_same _ g 1 _ _ b h1
  exact h2
theorem sp_new (w : World) (o : Obj) : SpIn ((w.alloc o).alloc (.cells #[.int .i64 0, .int .i64 0] 99)) (w.heap.size + 1) (.int .i64 0) (.int .i64 0) := by
  have := heap_alloc_new (w.alloc o) (.cells #[.int .i64 0, .int .i64 0] 99)
  rw [World.size_alloc] at this
  exact this

theorem sp_behind {w w' : World} {o : Obj} (a b : Value) (hb : Below (((w.alloc o).alloc (.cells #[.int .i64 0, .int .i64 0] 99)).drew).heap.size (((w.alloc o).alloc (.cells #[.int .i64 0, .int .i64 0] 99)).drew) w') :
    w'.cell? ⟨w.heap.size + 1, 0, none⟩ = some (.int .i64 0) ∧ w'.cell? ⟨w.heap.size + 1, 1, none⟩ = some (.int .i64 0) ∧ w'.frozen? ⟨w.heap.size + 1, 0, none⟩ = false ∧ w'.frozen? ⟨w.heap.size + 1, 1, none⟩ = false ∧ Hid (SpIn ((w'.setCell ⟨w.heap.size + 1, 0, none⟩ a).setCell ⟨w.heap.size + 1, 1, none⟩ b) (w.heap.size + 1) a b) ∧ Hid (Below w.heap.size w ((w'.setCell ⟨w.heap.size + 1, 0, none⟩ a).setCell ⟨w.heap.size + 1, 1, none⟩ b)) := by
  have h0 : SpIn (((w.alloc o).alloc (.cells #[.int .i64 0, .int .i64 0] 99)).drew) (w.heap.size + 1) (.int .i64 0) (.int .i64 0) := sp_new w o
  have h1 := h0.below hb
  have b1 : Below w.heap.size w w' := Below.step (Below.drew (Below.step (Below.alloc1 w o) (Below.alloc1 _ _))) hb
  exact ⟨h1.c0, h1.c1, h1.free 0, h1.free 1, h1.set a b, (b1.setCell (p := ⟨w.heap.size + 1, 0, none⟩) (Nat.le_succ _) _).setCell (p := ⟨w.heap.size + 1, 1, none⟩) (Nat.le_succ _) _⟩

set_option maxHeartbeats 2000000 in
theorem join_pts (p : List Int) (i : Nat) (w : World) (hp : p.length ≤ 12) (hi : i < p.length) :
    Calls Try.prog 90 #[.agg (ptC p), .int .i64 i] w (SpanOut w (min (jnA p i) (jnB p i)) (max (jnA p i) (jnB p i))) := by
  have hpt0 : PtIn (w.alloc (.cells (ptC p) 51)) w.heap.size p := heap_alloc_new w _
  have hpt := hpt0.below (Below.alloc1 _ (.cells #[.int .i64 0, .int .i64 0] 99))
  have hsz := hpt.size hp
  have hc1 := hpt.cell hp i (by omega)
  have hjl : (i + 1) % p.length < p.length := Nat.mod_lt _ (by omega)
  have hc2 := hpt.cell hp ((i + 1) % p.length) (by omega)
  have hrem : ((i : Int) + 1).tmod (p.length : Int) = (((i + 1) % p.length : Nat) : Int) := by
    rw [Int.natCast_emod, Int.natCast_add]
    exact Int.tmod_eq_emod_of_nonneg (by omega)
  unfold jnA jnB
  obtain ⟨n, hn⟩ : ∃ n, n = p.length := ⟨_, rfl⟩
  rw [← hn] at hsz hp hi hc2 hrem hjl ⊢
  generalize (i + 1) % n = j at hc2 hrem hjl ⊢
  generalize p.getD i 0 = x at hc1 ⊢
  generalize p.getD j 0 = y at hc2 ⊢
  have hi1 : (0 : Int) ≤ (i : Int) := by omega
  have hi2 : (i : Int) < 12 := by omega
  have hj1 : (0 : Int) ≤ (j : Int) := by omega
  have hj2 : (j : Int) < 12 := by omega
  have hn0 : (n : Int) ≠ 0 := by omega
  have hw : IntKind.i64.wrap ((i : Int) + 1) = (i : Int) + 1 := IntWalk.i64_in _ (by omega)
  have hs := fun w => spanOf_any x y w
  generalize min x y = lo at hs ⊢
  generalize max x y = hi' at hs ⊢
  have HS := Lib.hid hs
  clear hs
  have HNEW := Lib.hid (sp_new w (.cells (ptC p) 51))
  have HB2 := Lib.hid (Below.step (Below.alloc1 w (.cells (ptC p) 51)) (Below.alloc1 _ (.cells #[.int .i64 0, .int .i64 0] 99)))
  clear hpt hn
  go_enter Try.func90, Try.ntmps90
  go_wp2_with fail
  go_region_with (go_at_call 99; ((with_reducible refine (HS.out _).mono ?_); rintro e' w' ⟨rfl, hb'⟩; obtain ⟨k0, k1, f0, f1, HSP, HBB⟩ := sp_behind (.int .i64 lo) (.int .i64 hi') hb'; clear hb'))
  all_goals
    go_wp2
    exact bodyPost_ret (results_join _ _ (w.heap.size + 1) _ _ (‹Hid (SpIn _ _ _ _)›).out rfl) rfl ⟨rfl, (‹Hid (Below w.heap.size w ((_ : World).setCell _ _))›).out⟩

end Go.Proofs.Ytkohmdhjjnmfgab
