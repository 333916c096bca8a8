/- The joints of a stack in the program. -/
import Derived.Test.YtnkkgbecdckigaaStkRead
import Derived.Test.YtnkkgbecdckigaaStkV
import Derived.Test.YtnkkgbecdckigaaSpan
import Derived.Deep.QuietTactic
import Derived.BigQuiet
import Derived.IntWalk
namespace Go.Proofs.Ytnkkgbecdckigaa
open Go.RowKit
set_option linter.unusedSimpArgs false
set_option linter.unusedVariables false

theorem results_joint (tmps : Array Value) (w : World) (g : Nat) (x y : Value) (hg : w.heap[g]? = some (.cells #[x, y] 75 (0, 0))) (h2 : tmps.getD 4 undef = .pointer (some ⟨g, 0, none⟩)) :
    (results Try.f74 tmps).run Try.prog w = .ok (.agg #[x, y]) w := by
  have h2' : tmps[4]?.getD undef = .pointer (some ⟨g, 0, none⟩) := by simpa using h2
  have hr : Try.f74.results = #[.cell 4 75] := by kernel_rfl
  simp [results, hr, h2', asAddr, run_loadSpan w g x y hg]

set_option maxHeartbeats 2000000 in
theorem joint_any (l : List Int) (i : Nat) (w : World) (hs : stackB l = true) (hi : i + 1 < l.length) :
    Calls Try.prog 74 #[.agg (stkC l), .int .i64 (i : Int)] w (SpanOut w (jlo l i : Nat) (jhi l i : Nat)) := by
  have h8 := stack_len hs
  have hm1 := (stack_facts hs).2.2.2.2 i (by omega)
  have hm2 := (stack_facts hs).2.2.2.2 (i + 1) hi
  have hstk0 : StkIn (w.alloc (.cells (stkC l) 42)) w.heap.size l := heap_alloc_new w _
  have hstk := hstk0.below (Below.alloc1 _ (.cells #[.int .i64 0, .int .i64 0] 75))
  have hsz := hstk.size h8
  have hrd := hstk.rd h8
  have hx1 := fun W (h : Rd W (.slice (some ⟨w.heap.size, 0, none⟩) l.length 8) l) => index_any _ l (i : Int) W h (by omega)
  have hx2 := fun W (h : Rd W (.slice (some ⟨w.heap.size, 0, none⟩) l.length 8) l) => index_any _ l ((i : Int) + 1) W h (by omega)
  have e1 : idxI l (i : Int) = (plc l i : Int) := idxI_yes hm1
  have e2 : idxI l ((i : Int) + 1) = (plc l (i + 1) : Int) := idxI_yes hm2
  have p1 := plc_lt hs (s := i) (by omega)
  have p2 := plc_lt hs hi
  unfold IdxOut at hx1 hx2
  rw [e1] at hx1
  rw [e2] at hx2
  unfold jlo jhi
  obtain ⟨n, hn⟩ : ∃ n, n = l.length := ⟨_, rfl⟩
  generalize plc l i = a at hx1 p1 ⊢
  generalize plc l (i + 1) = b at hx2 p2 ⊢
  rw [← hn] at h8 hsz hrd p1 p2 hi hx1 hx2
  rw [show ((min a b : Nat) : Int) = min (a : Int) (b : Int) by omega, show ((max a b : Nat) : Int) = max (a : Int) (b : Int) by omega]
  have hsp := fun w => spanOf_any (a : Int) (b : Int) w
  generalize min (a : Int) (b : Int) = lo at hsp ⊢
  generalize max (a : Int) (b : Int) = hi' at hsp ⊢
  have hal := fun b w => run_stamps b n w h8
  have hw : IntKind.i64.wrap ((i : Int) + 1) = (i : Int) + 1 := IntWalk.i64_in _ (by omega)
  have HX1 := Lib.hid hx1; have HX2 := Lib.hid hx2; have HS := Lib.hid hsp
  have HRD : Hid (Rd (((w.alloc (.cells (stkC l) 42)).alloc (.cells #[.int .i64 0, .int .i64 0] 75)).drew) (.slice (some ⟨w.heap.size, 0, none⟩) n 8) l) := hrd.drewN 1
  clear hn hm1 hm2 hstk hstk0 hrd hx1 hx2 e1 e2 hs hsp
  go_enter Try.func74, Try.ntmps74
  go_wp2_with fail
  go_region_with (first
    | (go_at_call 71; ((with_reducible refine (HX1.out _ HRD.out).mono ?_); rintro e' w' ⟨rfl, rfl⟩))
    | (go_at_call 71; ((with_reducible refine (HX2.out _ HRD.out).mono ?_); rintro e' w' ⟨rfl, rfl⟩))
    | (go_at_call 82; ((with_reducible refine (HS.out _).mono ?_); rintro e' w' ⟨rfl, hb'⟩; obtain ⟨k0, k1, f0, f1, HSP, HBB⟩ := sp_behind (.int .i64 lo) (.int .i64 hi') hb'; clear hb')))
  all_goals
    go_wp2
    exact bodyPost_ret (results_joint _ _ (w.heap.size + 1) _ _ (‹Hid (SpIn _ _ _ _)›).out rfl) rfl ⟨rfl, (‹Hid (Below w.heap.size w ((_ : World).setCell _ _))›).out⟩

theorem ret_b {x y : Bool} (h : x = y) : Ending.returned (.bool x) = .returned (.bool y) := by rw [h]
theorem cross_iff (a b c d : Nat) (x : Bool) (h : x = true ↔ ((a < c ∧ c < b ∧ b < d) ∨ (c < a ∧ a < d ∧ d < b))) : x = crossN a b c d := by
  rw [Bool.eq_iff_iff, h]
  unfold crossN
  simp only [Bool.or_eq_true, Bool.and_eq_true, decide_eq_true_eq, and_assoc]
theorem below_drewN2 {B : Nat} {a w : World} (h : Below B a w) (q : Nat) : Below B a (w.drewN q) := Below.drewN h q
theorem plc_inj {l : List Int} (hs : stackB l = true) {s t : Nat} (h1 : s < l.length) (h2 : t < l.length) (hne : s ≠ t) : plc l s ≠ plc l t := by
  intro e
  have a := plc_get hs h1
  rw [e, plc_get hs h2] at a
  omega
/-- joints on one side have four ends: they cross as spans do -/
theorem cross_span {l : List Int} (hs : stackB l = true) {i j : Nat} (hij : i < j) (hj : j + 1 < l.length) (hp : i % 2 = j % 2) :
    (decide (((jlo l i : Nat) : Int) < ((jlo l j : Nat) : Int) ∧ ((jlo l j : Nat) : Int) < ((jhi l i : Nat) : Int)) != decide (((jlo l i : Nat) : Int) < ((jhi l j : Nat) : Int) ∧ ((jhi l j : Nat) : Int) < ((jhi l i : Nat) : Int))) = crossB l i j := by
  have a := plc_inj hs (s := i) (t := i + 1) (by omega) (by omega) (by omega)
  have b := plc_inj hs (s := i) (t := j) (by omega) (by omega) (by omega)
  have c := plc_inj hs (s := i) (t := j + 1) (by omega) (by omega) (by omega)
  have d := plc_inj hs (s := i + 1) (t := j) (by omega) (by omega) (by omega)
  have e := plc_inj hs (s := i + 1) (t := j + 1) (by omega) (by omega) (by omega)
  have f := plc_inj hs (s := j) (t := j + 1) (by omega) (by omega) (by omega)
  unfold crossB jlo jhi crossN
  rw [decide_eq_true hp, Bool.true_and]
  generalize plc l i = p1 at *
  generalize plc l (i + 1) = p2 at *
  generalize plc l j = q1 at *
  generalize plc l (j + 1) = q2 at *
  rw [Bool.eq_iff_iff]
  simp only [bne_iff_ne, ne_eq, Bool.or_eq_true, Bool.and_eq_true, decide_eq_true_eq, decide_eq_decide]
  omega

set_option maxHeartbeats 4000000 in
set_option maxRecDepth 100000 in
theorem jointsCross_any (l : List Int) (i j : Nat) (w : World) (hs : stackB l = true) (hij : i < j) (hj : j + 1 < l.length) :
    Calls Try.prog 62 #[.agg (stkC l), .int .i64 (i : Int), .int .i64 (j : Int)] w (Tells w (crossB l i j)) := by
  have h8 := stack_len hs
  have H8 := Lib.hid h8
  have hi' : i < 8 := by omega
  have hj' : j < 8 := by omega
  have J1 := fun w => joint_any l i w hs (by omega)
  have J2 := fun w => joint_any l j w hs hj
  have hstk : StkIn (w.alloc (.cells (stkC l) 42)) w.heap.size l := heap_alloc_new w _
  by_cases hp : i % 2 = j % 2
  · have h1 : ((i : Int) % 2 == (j : Int) % 2) = true := by simp; omega
    rw [← cross_span hs hij hj hp]
    have hx := fun w => spanY_any (jlo l i : Nat) (jhi l i : Nat) (jlo l j : Nat) (jhi l j : Nat) w
    generalize ((jlo l i : Nat) : Int) = a at *
    generalize ((jhi l i : Nat) : Int) = b at *
    generalize ((jlo l j : Nat) : Int) = c at *
    generalize ((jhi l j : Nat) : Int) = d at *
    generalize (decide (a < c ∧ c < b) != decide (a < d ∧ d < b)) = out at *
    have hk8 : stkV l 8 = .int .i64 ((l.length : Nat) : Int) := rfl
    obtain ⟨n, hn⟩ : ∃ n, n = l.length := ⟨_, rfl⟩
    rw [← hn] at hk8
    have ht := stkC_lit h8
    rw [hk8] at ht
    have HJ1 := Lib.hid J1; have HJ2 := Lib.hid J2; have HS := Lib.hid hstk; have HX := Lib.hid hx; have HT := Lib.hid ht; have HK := Lib.hid hk8
    clear J1 J2 hstk h8 hx hk8 hs hij hj hn ht
    go_enter Try.func62, Try.ntmps62
    go_wp2_with fail
    go_region_held3 (fun w' => Hid (StkIn w' w.heap.size l ∧ Below w.heap.size w w') ∧ w'.cell? ⟨w.heap.size, 0, none⟩ = some (stkV l 0) ∧ w'.cell? ⟨w.heap.size, 1, none⟩ = some (stkV l 1) ∧ w'.cell? ⟨w.heap.size, 2, none⟩ = some (stkV l 2) ∧ w'.cell? ⟨w.heap.size, 3, none⟩ = some (stkV l 3) ∧ w'.cell? ⟨w.heap.size, 4, none⟩ = some (stkV l 4) ∧ w'.cell? ⟨w.heap.size, 5, none⟩ = some (stkV l 5) ∧ w'.cell? ⟨w.heap.size, 6, none⟩ = some (stkV l 6) ∧ w'.cell? ⟨w.heap.size, 7, none⟩ = some (stkV l 7) ∧ w'.cell? ⟨w.heap.size, 8, none⟩ = some (.int .i64 (n : Int)))
      (first | assumption | exact nextK_cells HK.out H8.out (show StkIn (World.drew _) _ _ from HS.out) (Below.drew (Below.alloc1 _ _)) | exact nextK_keep HK.out H8.out (by assumption) (by assumption))
      (first
        | (go_at_call 74; (try rw [← HT.out]); ((with_reducible refine (HJ1.out _).mono ?_); rintro e' w' ⟨rfl, hb'⟩))
        | (go_at_call 74; (try rw [← HT.out]); ((with_reducible refine (HJ2.out _).mono ?_); rintro e' w' ⟨rfl, hb'⟩))
        | (go_at_call 75; ((with_reducible refine (HX.out _).mono ?_); rintro e' w' ⟨rfl, hb'⟩)))
    all_goals
      have hB : Below w.heap.size w w' := nextK_out (b := w.heap.size) (n := n) (l := l) (by assumption)
      go_wp2
      go_ret
      exact ⟨rfl, hB⟩
  · have h1 : ((i : Int) % 2 == (j : Int) % 2) = false := by simp; omega
    have e : crossB l i j = false := by unfold crossB; rw [decide_eq_false hp, Bool.false_and]
    rw [e]
    have hk8 : stkV l 8 = .int .i64 ((l.length : Nat) : Int) := rfl
    obtain ⟨n, hn⟩ : ∃ n, n = l.length := ⟨_, rfl⟩
    rw [← hn] at hk8
    have HS := Lib.hid hstk; have HK := Lib.hid hk8
    clear J1 J2 hstk hs hp e hij hj h8 hk8 hn
    go_enter Try.func62, Try.ntmps62
    go_wp2_with fail
    go_quiet (fail)
    go_wp2
    go_ret
    exact ⟨rfl, below_drewN2 (Below.alloc1 _ _) _⟩

end Go.Proofs.Ytnkkgbecdckigaa
