/- The folding of a semi-meander in the program. -/
import Derived.Test.YtodbjkfikbkkbacSemi2
import Derived.Test.YtodbjkfikbkkbacMoved
namespace Go.Proofs.Ytodbjkfikbkkbac
open Go.RowKit
set_option linter.unusedSimpArgs false
set_option linter.unusedVariables false

theorem below_next {w w1 w2 : World} {B : Nat} (h : Below B w w1) (hb : Below w1.heap.size w1 w2) (hB : B ≤ w1.heap.size) : Below B w w2 := h.trans (hb.mono hB)
def NatRet (w : World) (x : Nat) (e : Ending) (w' : World) : Prop := e = .returned (.int .i64 (x : Int)) ∧ Below w.heap.size w w'

set_option maxHeartbeats 1000000 in
theorem otherSide_any (l : List Int) (x : Nat) (w : World) (h12 : l.length ≤ 12) (hx : x < l.length) :
    Calls Try.prog 74 #[.agg (sysC l), .int .i64 (x : Int)] w (NatRet w (l.length - 1 - x)) := by
  have hlast := sysC_last h12
  obtain ⟨n, hn⟩ : ∃ n, n = l.length := ⟨_, rfl⟩
  rw [← hn] at hlast h12 hx ⊢
  have hp := fun w => refl_place (n : Int) (x : Int) w (by omega) (by omega) (by omega) (by omega)
  have e : (n : Int) - 1 - (x : Int) = ((n - 1 - x : Nat) : Int) := by omega
  rw [e] at hp
  have HP := Lib.hid hp
  clear hp e hn
  go_enter Try.func74, Try.ntmps74
  go_wp2_with (go_at_call 94; ((with_reducible refine (HP.out _).mono ?_); rintro e w1 ⟨rfl, hb1⟩))
  go_ret
  exact ⟨rfl, Below.step (Below.alloc1 _ _) hb1⟩

theorem ret_nat {x y : Int} (h : x = y) : Ending.returned (.int .i64 x) = .returned (.int .i64 y) := by rw [h]
/-- the crossing of a point, of q of them -/
def crN (q x : Nat) : Nat := max x (2 * q - 1 - x) - q

theorem cross_val {x y q : Nat} (h : x + y + 1 = 2 * q) (h6 : q ≤ 6) : IntKind.i64.wrap ((if x < y then (y : Int) else (x : Int)) - IntKind.i64.wrap (q : Int)) = ((crN q x : Nat) : Int) := by
  rw [IntWalk.i64_in (q : Int) (by omega)]
  unfold crN
  split
  · rw [IntWalk.i64_in _ (by omega)]; omega
  · rw [IntWalk.i64_in _ (by omega)]; omega
theorem cross_y {x y q : Nat} (h : x + y + 1 = 2 * q) (h6 : q ≤ 6) (hxy : x < y) : IntKind.i64.wrap ((y : Int) - IntKind.i64.wrap (q : Int)) = ((crN q x : Nat) : Int) := by have := cross_val h h6; rwa [if_pos hxy] at this
theorem cross_x {x y q : Nat} (h : x + y + 1 = 2 * q) (h6 : q ≤ 6) (hxy : ¬ x < y) : IntKind.i64.wrap ((x : Int) - IntKind.i64.wrap (q : Int)) = ((crN q x : Nat) : Int) := by have := cross_val h h6; rwa [if_neg hxy] at this
set_option maxHeartbeats 2000000 in
set_option maxRecDepth 100000 in
theorem crossingAt_any (l : List Int) (q x : Nat) (w : World) (hq : l.length = 2 * q) (h6 : q ≤ 6) (hx : x < 2 * q) :
    Calls Try.prog 73 #[.agg (sysC l), .int .i64 (x : Int)] w (NatRet w (crN q x)) := by
  have hl : l.length ≤ 12 := by omega
  have hO := fun w => otherSide_any l x w hl (by omega)
  rw [sysC_lit hl] at hO
  have hbx : SysIn (w.alloc (.cells (sysC l) 51)) w.heap.size l := heap_alloc_new w _
  obtain ⟨n, hn⟩ : ∃ n, n = l.length := ⟨_, rfl⟩
  have hs12 : sysV l 12 = .int .i64 (n : Int) := by rw [hn]; rfl
  rw [hs12, ← hn] at hO
  have HL : Hid (l.length ≤ 12) := hl
  rw [← hn] at hq
  have hnq : (n : Int) = 2 * (q : Int) := by omega
  have HO := Lib.hid hO; have HBX := Lib.hid hbx; have HS12 := Lib.hid hs12
  obtain ⟨y, hy⟩ : ∃ y, y = n - 1 - x := ⟨_, rfl⟩
  rw [← hy] at HO
  have hy1 : x + y + 1 = n := by omega
  have hd : (n : Int) / 2 = (q : Int) := by omega
  have hn12 : n ≤ 12 := by omega
  have m0 : 0 ≤ max (x : Int) (y : Int) := by omega
  have m1 : max (x : Int) (y : Int) ≤ 12 := by omega
  have m2 : IntKind.i64.wrap (max (x : Int) (y : Int) - (q : Int)) = max (x : Int) (y : Int) - (q : Int) := IntWalk.i64_in _ (by omega)
  have HNQ := Lib.hid hnq; have HY1 := Lib.hid hy1; have HQ := Lib.hid hq
  clear hO hbx hs12 hn hl hy hnq hy1 hq
  go_enter Try.func73, Try.ntmps73
  go_wp2_with fail
  go_region_held3 (fun w' => Hid (SysIn w' w.heap.size l ∧ Below w.heap.size w w') ∧ w'.cell? ⟨w.heap.size, 0, none⟩ = some (sysV l 0) ∧ w'.cell? ⟨w.heap.size, 1, none⟩ = some (sysV l 1) ∧ w'.cell? ⟨w.heap.size, 2, none⟩ = some (sysV l 2) ∧ w'.cell? ⟨w.heap.size, 3, none⟩ = some (sysV l 3) ∧ w'.cell? ⟨w.heap.size, 4, none⟩ = some (sysV l 4) ∧ w'.cell? ⟨w.heap.size, 5, none⟩ = some (sysV l 5) ∧ w'.cell? ⟨w.heap.size, 6, none⟩ = some (sysV l 6) ∧ w'.cell? ⟨w.heap.size, 7, none⟩ = some (sysV l 7) ∧ w'.cell? ⟨w.heap.size, 8, none⟩ = some (sysV l 8) ∧ w'.cell? ⟨w.heap.size, 9, none⟩ = some (sysV l 9) ∧ w'.cell? ⟨w.heap.size, 10, none⟩ = some (sysV l 10) ∧ w'.cell? ⟨w.heap.size, 11, none⟩ = some (sysV l 11) ∧ w'.cell? ⟨w.heap.size, 12, none⟩ = some (.int .i64 (n : Int)))
    (first | assumption | exact next_cells HS12.out HL.out (show SysIn (World.drew _) _ _ from HBX.out) (Below.drew (Below.alloc1 _ _)) | exact next_keep HS12.out HL.out (by assumption) (by assumption))
    ((go_at_call 74; ((with_reducible refine (HO.out _).mono ?_); rintro e' w' ⟨rfl, hb'⟩)))
  have hB : Below w.heap.size w w' := next_out (b := w.heap.size) (n := n) (l := l) (by assumption)
  have HBB := Lib.hid hB; clear hB
  have HE : Hid (x + y + 1 = 2 * q) := by have := HY1.out; have := HQ.out; show _ = _; omega
  go_wp2
  all_goals
    go_ret
    first
      | exact ⟨ret_nat (cross_y HE.out h6 (by assumption)), HBB.out⟩
      | exact ⟨ret_nat (cross_x HE.out h6 (by omega)), HBB.out⟩

/-- the point at which a crossing is left -/
def exN (q c : Nat) : Nat := if c % 2 = 0 then q + c else q - 1 - c

set_option maxHeartbeats 1000000 in
theorem exit_any (l : List Int) (q c : Nat) (w : World) (hq : l.length = 2 * q) (h6 : q ≤ 6) (hc : c < q) :
    Calls Try.prog 72 #[.agg (sysC l), .int .i64 (c : Int)] w (NatRet w (exN q c)) := by
  have hl : l.length ≤ 12 := by omega
  have hlast := sysC_last hl
  have hO := fun w => otherSide_any l (q + c) w hl (by omega)
  have hbx : SysIn (w.alloc (.cells (sysC l) 51)) w.heap.size l := heap_alloc_new w _
  have HL : Hid (l.length ≤ 12) := hl
  obtain ⟨n, hn⟩ : ∃ n, n = l.length := ⟨_, rfl⟩
  rw [← hn] at hlast hO hq
  have hd : (n : Int) / 2 = (q : Int) := by omega
  have hn12 : n ≤ 12 := by omega
  have e1 : n - 1 - (q + c) = q - 1 - c := by omega
  rw [e1] at hO
  have e2 : ((q + c : Nat) : Int) = (q : Int) + (c : Int) := by omega
  rw [e2] at hO
  have HO := Lib.hid hO; have HBX := Lib.hid hbx
  clear hO hbx hn hl e1 e2 hq
  by_cases hp : c % 2 = 0
  · have h1 : ((c : Int) % 2 == 0) = true := by simp; omega
    have HE : Hid (exN q c = q + c) := if_pos hp
    clear hp
    go_enter Try.func72, Try.ntmps72
    go_wp2
    go_ret
    exact ⟨ret_nat (by rw [HE.out]; omega), Below.alloc1 _ _⟩
  · have h1 : ((c : Int) % 2 == 0) = false := by simp; omega
    have HE : Hid (exN q c = q - 1 - c) := if_neg hp
    clear hp
    go_enter Try.func72, Try.ntmps72
    go_wp2_with (first
      | (with_reducible refine wp_loadSys rfl (.tmp 2) rfl w.heap.size l HL.out rfl HBX.out ?_)
      | (go_at_call 74; ((with_reducible refine (HO.out _).mono ?_); rintro e w1 ⟨rfl, hb1⟩)))
    go_ret
    exact ⟨ret_nat (by rw [HE.out]), Below.step (Below.alloc1 _ _) hb1⟩

/-- where the curve is behind k crossings -/
def atN (l : List Int) (q : Nat) : Nat → Nat
  | 0 => q
  | k + 1 => 2 * q - 1 - par l (atN l q k)
def foldS (l : List Int) : List Int := (List.range (l.length / 2)).map fun k => ((crN (l.length / 2) (atN l (l.length / 2) k) : Nat) : Int)
theorem foldS_length (l : List Int) : (foldS l).length = l.length / 2 := by simp [foldS]
theorem foldS_get (l : List Int) (k : Nat) (h : k < l.length / 2) : (foldS l).getD k 0 = ((crN (l.length / 2) (atN l (l.length / 2) k) : Nat) : Int) := by simp [foldS, List.getD, h]
theorem atN_lt {l : List Int} (hg : goodB l = true) (h0 : l.length ≠ 0) : ∀ k, atN l (l.length / 2) k < l.length
  | 0 => by have := (good_facts hg).1; show l.length / 2 < _; omega
  | k + 1 => by have := (good_facts hg).1; show 2 * (l.length / 2) - 1 - _ < _; omega

theorem fold_cells {w0 w : World} {b n x m : Nat} {l : List Int} (hn : sysV l 12 = .int .i64 (n : Int)) (hl : l.length ≤ 12) (hx : x < 12) (hm : (m : Int) = l.getD x 0) (h : SysIn w b l) (hb : Below w0.heap.size w0 w) :
    Hid (SysIn w b l ∧ Below w0.heap.size w0 w) ∧ w.cell? ⟨b, 0, none⟩ = some (sysV l 0) ∧ w.cell? ⟨b, 1, none⟩ = some (sysV l 1) ∧ w.cell? ⟨b, 2, none⟩ = some (sysV l 2) ∧ w.cell? ⟨b, 3, none⟩ = some (sysV l 3) ∧ w.cell? ⟨b, 4, none⟩ = some (sysV l 4) ∧ w.cell? ⟨b, 5, none⟩ = some (sysV l 5) ∧ w.cell? ⟨b, 6, none⟩ = some (sysV l 6) ∧ w.cell? ⟨b, 7, none⟩ = some (sysV l 7) ∧ w.cell? ⟨b, 8, none⟩ = some (sysV l 8) ∧ w.cell? ⟨b, 9, none⟩ = some (sysV l 9) ∧ w.cell? ⟨b, 10, none⟩ = some (sysV l 10) ∧ w.cell? ⟨b, 11, none⟩ = some (sysV l 11) ∧ w.cell? ⟨b, 12, none⟩ = some (.int .i64 (n : Int)) ∧ w.cell? ⟨b, x, none⟩ = some (.int .i64 (m : Int)) := by
  have h1 := next_cells hn hl h hb
  have h2 := h.cell hl x hx
  rw [← hm] at h2
  exact ⟨h1.1, h1.2.1, h1.2.2.1, h1.2.2.2.1, h1.2.2.2.2.1, h1.2.2.2.2.2.1, h1.2.2.2.2.2.2.1, h1.2.2.2.2.2.2.2.1, h1.2.2.2.2.2.2.2.2.1, h1.2.2.2.2.2.2.2.2.2.1, h1.2.2.2.2.2.2.2.2.2.2.1, h1.2.2.2.2.2.2.2.2.2.2.2.1, h1.2.2.2.2.2.2.2.2.2.2.2.2.1, h1.2.2.2.2.2.2.2.2.2.2.2.2.2, h2⟩
theorem fold_out {w0 w : World} {b n x m : Nat} {l : List Int} (h : Hid (SysIn w b l ∧ Below w0.heap.size w0 w) ∧ w.cell? ⟨b, 0, none⟩ = some (sysV l 0) ∧ w.cell? ⟨b, 1, none⟩ = some (sysV l 1) ∧ w.cell? ⟨b, 2, none⟩ = some (sysV l 2) ∧ w.cell? ⟨b, 3, none⟩ = some (sysV l 3) ∧ w.cell? ⟨b, 4, none⟩ = some (sysV l 4) ∧ w.cell? ⟨b, 5, none⟩ = some (sysV l 5) ∧ w.cell? ⟨b, 6, none⟩ = some (sysV l 6) ∧ w.cell? ⟨b, 7, none⟩ = some (sysV l 7) ∧ w.cell? ⟨b, 8, none⟩ = some (sysV l 8) ∧ w.cell? ⟨b, 9, none⟩ = some (sysV l 9) ∧ w.cell? ⟨b, 10, none⟩ = some (sysV l 10) ∧ w.cell? ⟨b, 11, none⟩ = some (sysV l 11) ∧ w.cell? ⟨b, 12, none⟩ = some (.int .i64 (n : Int)) ∧ w.cell? ⟨b, x, none⟩ = some (.int .i64 (m : Int))) : Below w0.heap.size w0 w := h.1.out.2
theorem fold_keep {w0 w w2 : World} {b n x m : Nat} {l : List Int} (hn : sysV l 12 = .int .i64 (n : Int)) (hl : l.length ≤ 12) (hx : x < 12) (hm : (m : Int) = l.getD x 0) (h : Hid (SysIn w b l ∧ Below w0.heap.size w0 w) ∧ w.cell? ⟨b, 0, none⟩ = some (sysV l 0) ∧ w.cell? ⟨b, 1, none⟩ = some (sysV l 1) ∧ w.cell? ⟨b, 2, none⟩ = some (sysV l 2) ∧ w.cell? ⟨b, 3, none⟩ = some (sysV l 3) ∧ w.cell? ⟨b, 4, none⟩ = some (sysV l 4) ∧ w.cell? ⟨b, 5, none⟩ = some (sysV l 5) ∧ w.cell? ⟨b, 6, none⟩ = some (sysV l 6) ∧ w.cell? ⟨b, 7, none⟩ = some (sysV l 7) ∧ w.cell? ⟨b, 8, none⟩ = some (sysV l 8) ∧ w.cell? ⟨b, 9, none⟩ = some (sysV l 9) ∧ w.cell? ⟨b, 10, none⟩ = some (sysV l 10) ∧ w.cell? ⟨b, 11, none⟩ = some (sysV l 11) ∧ w.cell? ⟨b, 12, none⟩ = some (.int .i64 (n : Int)) ∧ w.cell? ⟨b, x, none⟩ = some (.int .i64 (m : Int))) (hb : Below w.heap.size w w2) :
    Hid (SysIn w2 b l ∧ Below w0.heap.size w0 w2) ∧ w2.cell? ⟨b, 0, none⟩ = some (sysV l 0) ∧ w2.cell? ⟨b, 1, none⟩ = some (sysV l 1) ∧ w2.cell? ⟨b, 2, none⟩ = some (sysV l 2) ∧ w2.cell? ⟨b, 3, none⟩ = some (sysV l 3) ∧ w2.cell? ⟨b, 4, none⟩ = some (sysV l 4) ∧ w2.cell? ⟨b, 5, none⟩ = some (sysV l 5) ∧ w2.cell? ⟨b, 6, none⟩ = some (sysV l 6) ∧ w2.cell? ⟨b, 7, none⟩ = some (sysV l 7) ∧ w2.cell? ⟨b, 8, none⟩ = some (sysV l 8) ∧ w2.cell? ⟨b, 9, none⟩ = some (sysV l 9) ∧ w2.cell? ⟨b, 10, none⟩ = some (sysV l 10) ∧ w2.cell? ⟨b, 11, none⟩ = some (sysV l 11) ∧ w2.cell? ⟨b, 12, none⟩ = some (.int .i64 (n : Int)) ∧ w2.cell? ⟨b, x, none⟩ = some (.int .i64 (m : Int)) := fold_cells hn hl hx hm (h.1.out.1.below hb) (Below.step h.1.out.2 hb)

theorem results_folding (tmps : Array Value) (w : World) (g : Nat) (l : List Int) (hl : l.length ≤ 8) (hg : StkIn w g l) (h2 : tmps.getD 2 undef = .pointer (some ⟨g, 0, none⟩)) :
    (results Try.f49 tmps).run Try.prog w = .ok (.agg (stkC l)) w := by
  have h2' : tmps[2]?.getD undef = .pointer (some ⟨g, 0, none⟩) := by simpa using h2
  have hr : Try.f49.results = #[.cell 2 64] := by kernel_rfl
  simp [results, hr, h2', asAddr, run_loadStk w g l hl hg]

set_option maxHeartbeats 4000000 in
set_option maxRecDepth 100000 in
theorem folding_any (l : List Int) (w : World) (hg : goodB l = true) (h0 : l.length ≠ 0) :
    Calls Try.prog 49 #[.agg (sysC l)] w (StkRet w (foldS l)) := by
  have hl := good_len' hg
  have hev := (good_facts hg).1
  have hlast := sysC_last hl
  have hrr := fun k hk => (good_facts hg).2.2.1 k hk
  have HAT := Lib.hid (atN_lt hg h0)
  have HFL := Lib.hid (foldS_length l)
  have HFG := Lib.hid (foldS_get l)
  have HFS := Lib.hid (fun (n k : Nat) (hn : n = (foldS l).length) (hk : k < n) => fill_set (foldS l) n k hn hk)
  obtain ⟨q, hq⟩ : ∃ q, q = l.length / 2 := ⟨_, rfl⟩
  have hlq : l.length = 2 * q := by omega
  have hq6 : q ≤ 6 := by omega
  have hq0 : 0 < q := by omega
  rw [← hq] at HAT HFL HFG
  have hEX := Lib.hid (fun w => exit_any l q 0 w hlq hq6 hq0)
  rw [show exN q 0 = atN l q 0 from rfl, show ((0 : Nat) : Int) = 0 from rfl] at hEX
  have hCR := Lib.hid (fun x w (hx : x < 2 * q) => crossingAt_any l q x w hlq hq6 hx)
  have hOT := Lib.hid (fun (x : Nat) w (hx : x < l.length) => otherSide_any l x w hl hx)
  rw [sysC_lit hl] at hOT

  obtain ⟨n, hn⟩ : ∃ n, n = l.length := ⟨_, rfl⟩
  have hs12 : sysV l 12 = .int .i64 (n : Int) := by rw [hn]; rfl
  rw [hs12, ← hn] at hOT
  rw [← hn] at hlast hlq hrr HAT
  have HL : Hid (l.length ≤ 12) := hl
  have hd : (n : Int) / 2 = (q : Int) := by omega
  have hn12 : n ≤ 12 := by omega
  have HBL := Lib.hid (moved_blank w (.cells (sysC l) 51) (.cells #[.int .i64 0, .int .i64 0, .int .i64 0, .int .i64 0, .int .i64 0, .int .i64 0, .int .i64 0, .int .i64 0, .int .i64 0] 64) q (by omega))
  have HZ := Lib.hid (moved_zero w (.cells (sysC l) 51) (.cells #[.int .i64 0, .int .i64 0, .int .i64 0, .int .i64 0, .int .i64 0, .int .i64 0, .int .i64 0, .int .i64 0, .int .i64 (q : Int)] 64))
  have HBX : Hid (SysIn (((w.alloc (.cells (sysC l) 51)).alloc (.cells #[.int .i64 0, .int .i64 0, .int .i64 0, .int .i64 0, .int .i64 0, .int .i64 0, .int .i64 0, .int .i64 0, .int .i64 0] 64)).alloc (.cells #[.int .i64 0, .int .i64 0, .int .i64 0, .int .i64 0, .int .i64 0, .int .i64 0, .int .i64 0, .int .i64 0, .int .i64 (q : Int)] 64)) w.heap.size l) :=
    SysIn.below (SysIn.below (show SysIn (w.alloc (.cells (sysC l) 51)) w.heap.size l from heap_alloc_new w _) (Below.alloc1 _ _)) (Below.alloc1 _ _)
  have HS12 := Lib.hid hs12; have HRR := Lib.hid hrr; have HLQ := Lib.hid hlq; have HNN := Lib.hid hn
  clear hn hl hs12 hrr hlq hev hg h0 hq
  go_enter Try.func49, Try.ntmps49
  go_wp2_with (first
    | (with_reducible refine wp_loadSys rfl (.tmp 1) rfl w.heap.size l HL.out rfl HBX.out ?_)
    | (go_at_call 72; ((with_reducible refine (hEX.out _).mono ?_); rintro e w1 ⟨rfl, hb1⟩; have hm1 := HBL.out.below hb1; have hcs := hm1.size (by simp; omega); rw [List.length_replicate] at hcs; have HB1 := Lib.hid hb1; clear hb1)))
  go_loopw [4, 14] (fun ex i wr => ∃ k : Nat, k ≤ q ∧ i = .int .i64 k ∧ ex = .int .i64 ((atN l q k : Nat) : Int) ∧ StkIn wr (w.heap.size + 2) ((foldS l).take k ++ List.replicate (q - k) 0) ∧ SysIn wr w.heap.size l ∧ StkIn wr (w.heap.size + 1) [] ∧ Below w.heap.size w wr) (fun _ i _ => q - (intOf i).toNat)
  case atStart => exact ⟨0, by omega, rfl, rfl, by simpa using hm1, HBX.out.below HB1.out, HZ.out.below HB1.out, below_next (((Below.alloc1 _ _).alloc (by simp) _).alloc (by simp; omega) _) HB1.out (by simp; omega)⟩
  case round =>
    clear hm1 hcs
    obtain ⟨k, hk, rfl, rfl, hm, hbx, hz, hbel⟩ := hrel
    by_cases hlt : k < q
    · have hx := HAT.out k
      have hcr := hCR.out (atN l q k)
      have hg := HFG.out k hlt
      have hfs := HFS.out q k HFL.out.symm hlt
      rw [hg] at hfs
      have hrx := HRR.out (atN l q k) hx
      have hpi := par_int hrx.1
      have hnx : atN l q (k + 1) = 2 * q - 1 - par l (atN l q k) := rfl
      have hot := hOT.out (par l (atN l q k))
      have hlen : ((foldS l).take k ++ List.replicate (q - k) 0).length = q := by rw [List.length_append, List.length_take, HFL.out, List.length_replicate]; omega
      obtain ⟨x, hxe⟩ : ∃ x, x = atN l q k := ⟨_, rfl⟩
      rw [← hxe] at hx hcr hfs hrx hpi hnx hot hg ⊢
      clear hxe
      rw [← hpi] at hrx
      generalize par l x = m at hpi hnx hot hrx
      have hx12 : x < 12 := by omega
      have hmn : m < n := by have := HNN.out; omega
      have hq12 : x < 2 * q := by have := HLQ.out; omega
      have hot2 := fun w => hot w (by have := HNN.out; omega)
      rw [show n - 1 - m = atN l q (k + 1) by rw [hnx]; have := HLQ.out; omega] at hot2
      obtain ⟨x2, hx2⟩ : ∃ x2, x2 = atN l q (k + 1) := ⟨_, rfl⟩
      rw [← hx2] at hot2
      have HX2 := Lib.hid hx2
      have HCR := Lib.hid (fun w => hcr w hq12); have HOT := Lib.hid hot2
      have HLEN : Hid (((foldS l).take k ++ List.replicate (q - k) 0).length ≤ 8) := by show _ ≤ 8; omega
      have HLK : Hid (k < ((foldS l).take k ++ List.replicate (q - k) 0).length) := by show k < _; omega
      have HM := Lib.hid hm; have HB := Lib.hid hbx; have HZZ := Lib.hid hz; have HBE := Lib.hid hbel; have HFN := Lib.hid hfs; have HPI := Lib.hid hpi
      clear hcr hot hot2 hm hbx hz hbel hfs hg hpi hnx hlen hrx hx2
      go_wp2_with (first
        | (with_reducible refine wp_loadSys rfl (.tmp 1) rfl w.heap.size l HL.out rfl HB.out ?_)
        | (go_at_call 73; ((with_reducible refine (HCR.out _).mono ?_); rintro e w2 ⟨rfl, hb2⟩; have HB2 := Lib.hid hb2; have c1 := (HM.out.below hb2).cell HLEN.out k (by omega); have f1 := (HM.out.below hb2).free k; clear hb2)))
      have hW1 := ((HM.out.below HB2.out).stored k ((crN q x : Nat) : Int) HLK.out)
      rw [HFN.out] at hW1
      have hW2 := SysIn.grown (HB.out.below HB2.out) (grown_setCell (b := w.heap.size + 2) (i := k) (v := .int .i64 ((crN q x : Nat) : Int))) (by omega)
      have hW3 := (HZZ.out.below HB2.out).other (g := w.heap.size + 2) (i := k) (v := .int .i64 ((crN q x : Nat) : Int)) (by omega)
      have hW4 := (below_next HBE.out HB2.out HBE.out.size).setCell (p := ⟨w.heap.size + 2, k, none⟩) (by show w.heap.size ≤ w.heap.size + 2; omega) (.int .i64 ((crN q x : Nat) : Int))
      generalize w2.setCell ⟨w.heap.size + 2, k, none⟩ (.int .i64 ((crN q x : Nat) : Int)) = W at *
      have HW1 := Lib.hid hW1; have HW2 := Lib.hid hW2; have HW3 := Lib.hid hW3; have HW4 := Lib.hid hW4
      clear hW1 hW2 hW3 hW4 c1 f1
      have i1 : (0 : Int) ≤ (x : Int) := by omega
      have i2 : (x : Int) ≤ 11 := by omega
      have i3 : (x : Int) < 12 := by omega
      go_region_held3 (fun w' => Hid (SysIn w' w.heap.size l ∧ Below W.heap.size W w') ∧ w'.cell? ⟨w.heap.size, 0, none⟩ = some (sysV l 0) ∧ w'.cell? ⟨w.heap.size, 1, none⟩ = some (sysV l 1) ∧ w'.cell? ⟨w.heap.size, 2, none⟩ = some (sysV l 2) ∧ w'.cell? ⟨w.heap.size, 3, none⟩ = some (sysV l 3) ∧ w'.cell? ⟨w.heap.size, 4, none⟩ = some (sysV l 4) ∧ w'.cell? ⟨w.heap.size, 5, none⟩ = some (sysV l 5) ∧ w'.cell? ⟨w.heap.size, 6, none⟩ = some (sysV l 6) ∧ w'.cell? ⟨w.heap.size, 7, none⟩ = some (sysV l 7) ∧ w'.cell? ⟨w.heap.size, 8, none⟩ = some (sysV l 8) ∧ w'.cell? ⟨w.heap.size, 9, none⟩ = some (sysV l 9) ∧ w'.cell? ⟨w.heap.size, 10, none⟩ = some (sysV l 10) ∧ w'.cell? ⟨w.heap.size, 11, none⟩ = some (sysV l 11) ∧ w'.cell? ⟨w.heap.size, 12, none⟩ = some (.int .i64 (n : Int)) ∧ w'.cell? ⟨w.heap.size, x, none⟩ = some (.int .i64 (m : Int)))
        (first | assumption | exact fold_cells HS12.out HL.out hx12 HPI.out (show SysIn (World.drew _) _ _ from HW2.out) (Below.drew (Below.refl _ _)) | exact fold_keep HS12.out HL.out hx12 HPI.out (by assumption) (by assumption))
        ((go_at_call 74; ((with_reducible refine (HOT.out _).mono ?_); rintro e' w' ⟨rfl, hb'⟩)))
      have hB : Below W.heap.size W w' := fold_out (b := w.heap.size) (n := n) (x := x) (m := m) (l := l) (by assumption)
      have HBB := Lib.hid hB; clear hB
      go_wp2
      go_roundw
      case rel => exact ⟨k + 1, by omega, by go_num, by rw [HX2.out], HW1.out.below HBB.out, HW2.out.below HBB.out, HW3.out.below HBB.out, below_next HW4.out HBB.out HW4.out.size⟩
      case measure => simp [intOf]; omega
    · obtain rfl : k = q := by omega
      have HFU : Hid ((foldS l).length ≤ 8) := by show _ ≤ 8; rw [HFL.out]; omega
      rw [Nat.sub_self, List.replicate_zero, List.append_nil, List.take_of_length_le (by rw [HFL.out]; exact Nat.le_refl _)] at hm
      go_wp2_with (first
        | (with_reducible refine wp_loadStk rfl (.tmp 3) rfl (w.heap.size + 2) (foldS l) HFU.out rfl hm ?_)
        | ((with_reducible refine wp_storeStk rfl (.tmp 2) (.tmp 30) rfl (w.heap.size + 1) (foldS l) [] HFU.out (Nat.zero_le _) rfl rfl hz ?_); intro w2 hs2 hg2))
      exact bodyPost_ret (results_folding _ _ (w.heap.size + 1) (foldS l) HFU.out hs2 rfl) rfl ⟨rfl, hbel.grown hg2 hbel.size (by intro k hk; simp at hk; omega)⟩

end Go.Proofs.Ytodbjkfikbkkbac
