/- The joints of a stack in the program. -/
import Derived.Test.YtodbjkfikbkkbabStkRead
import Derived.Test.YtodbjkfikbkkbabGood
import Derived.Deep.QuietTactic
import Derived.BigQuiet
import Derived.IntWalk
namespace Go.Proofs.Ytodbjkfikbkkbab
open Go.RowKit
set_option linter.unusedSimpArgs false
set_option linter.unusedVariables false

theorem index_quiet (v : Value) (l : List Int) (x : Int) (w : World) (q : Nat) (h : Rd w v l) (hl : l.length ≤ 1000000) :
    Calls Try.prog 123 #[v, .int .i64 x] (w.drewN q) fun e w' => e = .returned (.int .i64 (idxI l x)) ∧ w' = w.drewN q :=
  (index_any v l x _ (Rd.drewN h q) hl).mono fun _ _ ⟨h1, h2⟩ => ⟨h1, h2.symm⟩

theorem ret_two {x y x' y' : Int} (h1 : x = x') (h2 : y = y') : Ending.returned (.tuple #[.int .i64 x, .int .i64 y]) = .returned (.tuple #[.int .i64 x', .int .i64 y']) := by rw [h1, h2]

def JointOut (w : World) (a b : Nat) (e : Ending) (w' : World) : Prop := e = .returned (.tuple #[.int .i64 (a : Int), .int .i64 (b : Int)]) ∧ Below w.heap.size w w'

set_option maxHeartbeats 2000000 in
theorem joint_any (l : List Int) (i : Nat) (w : World) (hs : stackB l = true) (hi : i + 1 < l.length) :
    Calls Try.prog 124 #[.agg (stkC l), .int .i64 (i : Int)] w (JointOut w (jlo l i) (jhi l i)) := by
  have h8 := stack_len hs
  have hlast := stkC_last h8
  have hm1 := (stack_facts hs).2.2.2.2 i (by omega)
  have hm2 := (stack_facts hs).2.2.2.2 (i + 1) hi
  have hstk : StkIn (w.alloc (.cells (stkC l) 60)) w.heap.size l := heap_alloc_new w _
  have hrd := hstk.rd h8
  have hx1 := fun q => index_quiet _ l (i : Int) _ q hrd (by omega)
  have hx2 := fun q => index_quiet _ l ((i : Int) + 1) _ q hrd (by omega)
  have e1 : idxI l (i : Int) = (plc l i : Int) := idxI_yes hm1
  have e2 : idxI l ((i : Int) + 1) = (plc l (i + 1) : Int) := idxI_yes hm2
  have p1 := plc_lt hs (s := i) (by omega)
  have p2 := plc_lt hs hi
  rw [e1] at hx1
  rw [e2] at hx2
  unfold jlo jhi
  obtain ⟨n, hn⟩ : ∃ n, n = l.length := ⟨_, rfl⟩
  generalize plc l i = a at hx1 p1 ⊢
  generalize plc l (i + 1) = b at hx2 p2 ⊢
  rw [← hn] at hlast h8 hrd p1 p2 hi hx1 hx2
  have hal := fun b w => run_stamps b n w h8
  have hw : IntKind.i64.wrap ((i : Int) + 1) = (i : Int) + 1 := IntWalk.i64_in _ (by omega)
  have HX1 := Lib.hid hx1; have HX2 := Lib.hid hx2
  clear hn hm1 hm2 hstk hrd hx1 hx2 e1 e2 hs
  go_enter Try.func124, Try.ntmps124
  go_wp2
  go_quiet ((first
    | (go_at_call 123; with_reducible exact Calls.quiet_of_same (HX1.out _))
    | (go_at_call 123; with_reducible exact Calls.quiet_of_same (HX2.out _))))
  go_wp2
  all_goals
    go_ret2
    exact ⟨ret_two (by omega) (by omega), below_drewN (Below.alloc1 _ _) _⟩

theorem ret_b {x y : Bool} (h : x = y) : Ending.returned (.bool x) = .returned (.bool y) := by rw [h]
theorem cross_iff (a b c d : Nat) (x : Bool) (h : x = true ↔ ((a < c ∧ c < b ∧ b < d) ∨ (c < a ∧ a < d ∧ d < b))) : x = crossN a b c d := by
  rw [Bool.eq_iff_iff, h]
  unfold crossN
  simp only [Bool.or_eq_true, Bool.and_eq_true, decide_eq_true_eq, and_assoc]
theorem jlo_le {l : List Int} (hs : stackB l = true) {i : Nat} (hi : i + 1 < l.length) : jlo l i ≤ 8 := by
  have := plc_lt hs (s := i) (by omega); have := stack_len hs; unfold jlo; omega
theorem jhi_le {l : List Int} (hs : stackB l = true) {i : Nat} (hi : i + 1 < l.length) : jhi l i ≤ 8 := by
  have := plc_lt hs (s := i) (by omega); have := plc_lt hs hi; have := stack_len hs; unfold jhi; omega

set_option maxHeartbeats 4000000 in
set_option maxRecDepth 100000 in
theorem jointsCross_any (l : List Int) (i j : Nat) (w : World) (hs : stackB l = true) (hij : i < j) (hj : j + 1 < l.length) :
    Calls Try.prog 104 #[.agg (stkC l), .int .i64 (i : Int), .int .i64 (j : Int)] w (Tells w (crossB l i j)) := by
  have h8 := stack_len hs
  have H8 := Lib.hid h8
  have hi' : i < 8 := by omega
  have hj' : j < 8 := by omega
  have b1 := jlo_le hs (i := i) (by omega)
  have b2 := jhi_le hs (i := i) (by omega)
  have b3 := jlo_le hs hj
  have b4 := jhi_le hs hj
  have J1 := fun w => joint_any l i w hs (by omega)
  have J2 := fun w => joint_any l j w hs hj
  have hstk : StkIn (w.alloc (.cells (stkC l) 60)) w.heap.size l := heap_alloc_new w _
  unfold crossB
  generalize jlo l i = a at J1 b1 ⊢
  generalize jhi l i = b at J1 b2 ⊢
  generalize jlo l j = c at J2 b3 ⊢
  generalize jhi l j = d at J2 b4 ⊢
  have HJ1 := Lib.hid J1; have HJ2 := Lib.hid J2; have HS := Lib.hid hstk
  clear J1 J2 hstk h8
  by_cases hp : i % 2 = j % 2
  · have h1 : ((i : Int) % 2 == (j : Int) % 2) = true := by simp; omega
    have HP : Hid (decide (i % 2 = j % 2) = true) := decide_eq_true hp
    rw [HP.out, Bool.true_and]
    clear hp
    go_enter Try.func104, Try.ntmps104
    go_wp2_with (first
      | (with_reducible refine wp_loadStk rfl (.tmp 3) rfl w.heap.size l H8.out rfl HS.out ?_)
      | (go_at_call 124; ((with_reducible refine (HJ1.out _).mono ?_); rintro e w1 ⟨rfl, hb1⟩; have hs1 := HS.out.below hb1))
      | (with_reducible refine wp_loadStk rfl (.tmp 3) rfl w.heap.size l H8.out rfl hs1 ?_)
      | (go_at_call 124; ((with_reducible refine (HJ2.out _).mono ?_); rintro e w2 ⟨rfl, hb2⟩)))
    all_goals
      go_ret
      refine ⟨ret_b (cross_iff _ _ _ _ _ ?_), ((Below.alloc1 _ _).trans (hb1.mono (by simp))).trans (hb2.mono (by have := hb1.size; simp at this; omega))⟩
      first | (simp; omega) | (simp only [true_iff, false_iff, reduceCtorEq, decide_eq_true_eq]; omega)
  · have h1 : ((i : Int) % 2 == (j : Int) % 2) = false := by simp; omega
    have HP : Hid (decide (i % 2 = j % 2) = false) := decide_eq_false hp
    rw [HP.out, Bool.false_and]
    clear hp
    go_enter Try.func104, Try.ntmps104
    go_wp2_with (first
      | (with_reducible refine wp_loadStk rfl (.tmp 3) rfl w.heap.size l H8.out rfl HS.out ?_)
      | (go_at_call 124; ((with_reducible refine (HJ1.out _).mono ?_); rintro e w1 ⟨rfl, hb1⟩; have hs1 := HS.out.below hb1))
      | (with_reducible refine wp_loadStk rfl (.tmp 3) rfl w.heap.size l H8.out rfl hs1 ?_)
      | (go_at_call 124; ((with_reducible refine (HJ2.out _).mono ?_); rintro e w2 ⟨rfl, hb2⟩)))
    go_ret
    exact ⟨rfl, ((Below.alloc1 _ _).trans (hb1.mono (by simp))).trans (hb2.mono (by have := hb1.size; simp at this; omega))⟩

end Go.Proofs.Ytodbjkfikbkkbab
