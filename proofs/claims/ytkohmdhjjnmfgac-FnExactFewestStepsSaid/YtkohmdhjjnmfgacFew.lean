/- FewestSteps in the program and in the model. -/
import Derived.Test.YtkohmdhjjnmfgacStGood2
import Derived.Test.YtkohmdhjjnmfgacReadSt
namespace Go.Proofs.Ytkohmdhjjnmfgac
open Go.RowKit
set_option linter.unusedSimpArgs false
set_option linter.unusedVariables false

def ok_FewestSteps (u d : List Int) (c : Int) : Bool := stateB u d c
def res_FewestSteps (u d : List Int) (c : Int) : Int := max (((if stateB u d c then u else []).length : Nat) : Int) (((if stateB u d c then d else []).length : Nat) : Int)
theorem ret_intF {x y : Int} (h : x = y) : Ending.returned (.int .i64 x) = .returned (.int .i64 y) := by rw [h]
theorem ret_intG {x y : Int} {b : Bool} (h : x = y) : Ending.returned (.tuple #[.int .i64 x, .bool b]) = .returned (.tuple #[.int .i64 y, .bool b]) := by rw [h]

set_option maxHeartbeats 1000000 in
theorem fewest_any (u d : List Int) (c : Int) (w : World) (hu : u.length ≤ 6) (hd : d.length ≤ 6) :
    Calls Try.prog 53 #[.agg (frC u d c)] w fun e w' => e = .returned (.int .i64 (max (u.length : Int) (d.length : Int))) ∧ Below w.heap.size w w' := by
  have hf : FrIn (w.alloc (.cells (frC u d c) 60)) w.heap.size u d c := heap_alloc_new w _
  have c1 : (w.alloc (.cells (frC u d c) 60)).cell? ⟨w.heap.size, 6, none⟩ = some (.int .i64 (u.length : Int)) := by
    rw [cell_of_row _ _ 6 _ _ _ hf]
    simp only [frC, List.getElem?_toArray]
    rw [frL_up c hu 6 (by omega), endL_last hu]
  have c2 : (w.alloc (.cells (frC u d c) 60)).cell? ⟨w.heap.size, 13, none⟩ = some (.int .i64 (d.length : Int)) := by
    rw [cell_of_row _ _ 13 _ _ _ hf]
    simp only [frC, List.getElem?_toArray]
    rw [show 13 = 7 + 6 by omega, frL_down c hu hd 6 (by omega), endL_last hd]
  obtain ⟨m, hm⟩ : ∃ m, max (u.length : Int) (d.length : Int) = m := ⟨_, rfl⟩
  rw [hm]
  generalize u.length = n1 at *
  generalize d.length = n2 at *
  clear hf
  go_enter Try.func53, Try.ntmps53
  go_wp2
  all_goals
    go_ret
    exact ⟨ret_intF (by omega), Below.alloc1 _ _⟩

set_option maxHeartbeats 2000000 in
theorem impl_FewestSteps (u1 u2 : Value) (lu ld : List Int) (c : Int) (w : World) (h1 : Rd w u1 lu) (h2 : Rd w u2 ld) (wu : Wf lu) (wd : Wf ld) :
    Calls Try.prog 26 #[.agg #[u1, u2, .int .i64 c]] w (GivesN w (res_FewestSteps lu ld c) (ok_FewestSteps lu ld c)) := by
  unfold res_FewestSteps ok_FewestSteps
  have B1 : Below w.heap.size w (w.alloc (.cells #[u1, u2, .int .i64 c] 27)) := Below.alloc1 w _
  have hA : StIn (w.alloc (.cells #[u1, u2, .int .i64 c] 27)) w.heap.size u1 u2 c := heap_alloc_new w _
  have hrs := readState_any u1 u2 lu ld c (w.alloc (.cells #[u1, u2, .int .i64 c] 27)) (h1.below B1) (h2.below B1) wu wd
  have hcap := state_cap lu ld c
  have k0 := hA.c0; have k1 := hA.c1; have k2 := hA.c2
  generalize (if stateB lu ld c then lu else []) = lu' at *
  generalize (if stateB lu ld c then ld else []) = ld' at *
  generalize (if stateB lu ld c then c else 0) = c' at *
  generalize stateB lu ld c = ok at *
  have hfw := fun w => fewest_any lu' ld' c' w hcap.1 hcap.2
  have HRS := Lib.hid hrs; have C1 := Lib.hid hcap.1; have C2 := Lib.hid hcap.2; have HB := Lib.hid B1; have HFW := Lib.hid hfw
  generalize max (lu'.length : Int) (ld'.length : Int) = out at HFW ⊢
  obtain ⟨a1, c1, rfl, _⟩ := h1
  obtain ⟨a2, c2, rfl, _⟩ := h2
  clear hA hrs hcap B1 hfw
  go_enter Try.func26, Try.ntmps26
  go_wp2_with (first
    | (go_at_call 39; ((with_reducible refine HRS.out.mono ?_); rintro e w1 ⟨rfl, hb1⟩; have HB1 := Lib.hid (Below.step HB.out hb1); clear hb1))
    | ((with_reducible refine wp_storeFr rfl (.tmp 4) (.tmp 9) rfl _ lu' ld' [] [] c' 0 C1.out C2.out (Nat.zero_le _) (Nat.zero_le _) rfl rfl (fr_zero _) ?_); intro w2 hs2 hg2; have HS2 := Lib.hid hs2; have HB2 := Lib.hid ((Below.step HB1.out (Below.alloc1 _ _)).grown hg2 (by have := (Below.step HB1.out (Below.alloc1 w1 (.cells #[.int .i64 0, .int .i64 0, .int .i64 0, .int .i64 0, .int .i64 0, .int .i64 0, .int .i64 0, .int .i64 0, .int .i64 0, .int .i64 0, .int .i64 0, .int .i64 0, .int .i64 0, .int .i64 0, .int .i64 0] 60))).size; exact this) (fun k hk => by have := HB1.out.size; simp at hk; omega)))
    | (with_reducible refine wp_loadFr rfl (.tmp 4) rfl w1.heap.size lu' ld' c' C1.out C2.out rfl HS2.out ?_)
    | (go_at_call 53; refine (HFW.out _).mono ?_; rintro e w3 ⟨rfl, hb3⟩))
  go_ret2
  exact ⟨rfl, Below.step HB2.out hb3⟩

theorem mostS_int (a b : Int) (w : World) : Calls Try.prog 52 #[.int .i64 a, .int .i64 b] w fun e w' => e = .returned (.int .i64 (max a b)) ∧ w = w' := by
  obtain ⟨m, hm⟩ : ∃ m, m = max a b := ⟨_, rfl⟩
  rw [← hm]
  by_cases h : b < a
  · go_enter Try.func52, Try.ntmps52
    go_wp2
    go_ret
    exact ⟨ret_intF (by omega), rfl⟩
  · go_enter Try.func52, Try.ntmps52
    go_wp2
    go_ret
    exact ⟨ret_intF (by omega), rfl⟩

set_option maxHeartbeats 2000000 in
theorem spec_FewestSteps (u d : List Int) (c : Int) (w : World) (v1 v2 : Value) (h1 : Rd w v1 u) (h2 : Rd w v2 d) :
    Calls Try.prog 25 #[.agg #[v1, v2, .int .i64 c]] w (GivesN w (res_FewestSteps u d c) (ok_FewestSteps u d c)) := by
  unfold res_FewestSteps ok_FewestSteps
  have B1 : Below w.heap.size w (w.alloc (.cells #[v1, v2, .int .i64 c] 27)) := Below.alloc1 w _
  have hA := Box3.new 27 w v1 v2 (.int .i64 c)
  have hg := stGood_any v1 v2 u d c _ (h1.below B1) (h2.below B1)
  have k0 := hA.c0; have k1 := hA.c1; have k2 := hA.c2
  have HB := Lib.hid B1; have HA := Lib.hid hA
  cases hs : stateB u d c with
  | false =>
    rw [hs] at hg
    have HG := Lib.hid hg
    simp only [Bool.false_eq_true, if_false]
    clear hg B1 hA h1 h2 hs
    go_enter Try.func25, Try.ntmps25
    go_wp2_with fail
    refine HG.out.mono ?_
    rintro e w1 ⟨rfl, hb1⟩
    go_wp2
    go_ret2
    exact ⟨rfl, Below.step HB.out hb1⟩
  | true =>
    rw [hs] at hg
    have HG := Lib.hid hg
    simp only [if_true]
    have hm := fun w => mostS_int (u.length : Int) (d.length : Int) w
    have HM := Lib.hid hm
    obtain ⟨a1, c1, rfl, _⟩ := h1
    obtain ⟨a2, c2, rfl, _⟩ := h2
    clear hg B1 hA hs hm
    generalize max (u.length : Int) (d.length : Int) = out at HM ⊢
    generalize u.length = n1 at *
    generalize d.length = n2 at *
    go_enter Try.func25, Try.ntmps25
    go_wp2_with fail
    refine HG.out.mono ?_
    rintro e w1 ⟨rfl, hb1⟩
    have j0 := (HA.out.below hb1).c0; have j1 := (HA.out.below hb1).c1
    clear k0 k1 k2
    go_wp2_with (go_at_call 52; refine (HM.out _).mono ?_; rintro e w2 ⟨rfl, rfl⟩)
    go_ret2
    exact ⟨rfl, Below.step HB.out hb1⟩

end Go.Proofs.Ytkohmdhjjnmfgac
