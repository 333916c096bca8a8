/- The joins of points: the first two that cross; open words and closed ones. -/
import Derived.Test.YteeoepbbocdchaaWdCross
import Derived.Deep.RegionWith
namespace Go.Proofs.Yteeoepbbocdchaa
open Go.RowKit
set_option linter.unusedSimpArgs false
set_option linter.unusedVariables false

theorem results_join (tmps : Array Value) (w : World) (g : Nat) (x y : Value) (hg : w.heap[g]? = some (.cells #[x, y] 181 (0, 0))) (h2 : tmps.getD 4 undef = .pointer (some ⟨g, 0, none⟩)) :
    (results Try.f170 tmps).run Try.prog w = .ok (.agg #[x, y]) w := by
  have h2' : tmps[4]?.getD undef = .pointer (some ⟨g, 0, none⟩) := by simpa using h2
  have hr : Try.f170.results = #[.cell 4 181] := by kernel_rfl
  simp [results, hr, h2', asAddr, run_loadSpan w g x y hg]

/-- the points at the ends of the join at i -/
def jnA (p : List Int) (i : Nat) : Int := p.getD i 0
def jnB (p : List Int) (i : Nat) : Int := p.getD ((i + 1) % p.length) 0

set_option maxHeartbeats 2000000 in
theorem join_pts (p : List Int) (i : Nat) (w : World) (hp : p.length ≤ 12) (hi : i < p.length) :
    Calls Try.prog 170 #[.agg (ptC p), .int .i64 i] w (SpanOut w (min (jnA p i) (jnB p i)) (max (jnA p i) (jnB p i))) := by
  have hpt0 : PtIn (w.alloc (.cells (ptC p) 70)) w.heap.size p := heap_alloc_new w _
  have hpt := hpt0.below (Below.alloc1 _ (.cells #[.int .i64 0, .int .i64 0] 181))
  have hsz := hpt.size hp
  have hc1 := hpt.cell hp i (by omega)
  have hjl : (i + 1) % p.length < p.length := Nat.mod_lt _ (by omega)
  have hc2 := hpt.cell hp ((i + 1) % p.length) (by omega)
  have hrem : ((i : Int) + 1).tmod (p.length : Int) = (((i + 1) % p.length : Nat) : Int) := by
    rw [Int.natCast_emod, Int.natCast_add]
    exact Int.tmod_eq_emod_of_nonneg (by omega)
  unfold jnA jnB
  obtain ⟨n, hn⟩ : ∃ n, n = p.length := ⟨_, rfl⟩
  rw [← hn] at hsz hp hi hc2 hrem hjl ⊢
  generalize (i + 1) % n = j at hc2 hrem hjl ⊢
  generalize p.getD i 0 = x at hc1 ⊢
  generalize p.getD j 0 = y at hc2 ⊢
  have hi1 : (0 : Int) ≤ (i : Int) := by omega
  have hi2 : (i : Int) < 12 := by omega
  have hj1 : (0 : Int) ≤ (j : Int) := by omega
  have hj2 : (j : Int) < 12 := by omega
  have hn0 : (n : Int) ≠ 0 := by omega
  have hw : IntKind.i64.wrap ((i : Int) + 1) = (i : Int) + 1 := IntWalk.i64_in _ (by omega)
  have hs := fun w => spanOf_any x y w
  generalize min x y = lo at hs ⊢
  generalize max x y = hi' at hs ⊢
  have HS := Lib.hid hs
  clear hs
  have HNEW := Lib.hid (sp_new w (.cells (ptC p) 70))
  have HB2 := Lib.hid (Below.step (Below.alloc1 w (.cells (ptC p) 70)) (Below.alloc1 _ (.cells #[.int .i64 0, .int .i64 0] 181)))
  clear hpt hn
  go_enter Try.func170, Try.ntmps170
  go_wp2_with fail
  go_region_with (go_at_call 195; ((with_reducible refine (HS.out _).mono ?_); rintro e' w' ⟨rfl, hb'⟩; obtain ⟨k0, k1, f0, f1, HSP, HBB⟩ := sp_behind (.int .i64 lo) (.int .i64 hi') hb'; clear hb'))
  all_goals
    go_wp2
    exact bodyPost_ret (results_join _ _ (w.heap.size + 1) _ _ (‹Hid (SpIn _ _ _ _)›).out rfl) rfl ⟨rfl, (‹Hid (Below w.heap.size w ((_ : World).setCell _ _))›).out⟩

end Go.Proofs.Yteeoepbbocdchaa
