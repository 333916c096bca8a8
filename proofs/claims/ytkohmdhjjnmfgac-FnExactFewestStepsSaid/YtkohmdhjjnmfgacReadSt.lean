/- The program's readState at any state; IsState. -/
import Derived.Test.YtkohmdhjjnmfgacReadStRA
import Derived.Test.YtkohmdhjjnmfgacReadStRB
import Derived.Test.YtkohmdhjjnmfgacReadStRC
import Derived.Test.YtkohmdhjjnmfgacReadStRD
import Derived.Test.YtkohmdhjjnmfgacReadStRE
namespace Go.Proofs.Ytkohmdhjjnmfgac
open Go.RowKit Go.Maps
set_option linter.unusedSimpArgs false
set_option linter.unusedVariables false
theorem readState_run (u1 u2 : Value) (lu ld : List Int) (c : Int) (w : World) (h1 : Rd w u1 lu) (h2 : Rd w u2 ld) (hu : lu.length ≤ 6) (hd : ld.length ≤ 6) (hc0 : 0 ≤ c) (hc6 : c ≤ 6) (wu : Wf lu) (wd : Wf ld) :
    Calls Try.prog 39 #[.agg #[u1, u2, .int .i64 c]] w (FrOut w (if stateB lu ld c then lu else []) (if stateB lu ld c then ld else []) (if stateB lu ld c then c else 0) (stateB lu ld c)) := by
  cases hx1 : (sixL (renU lu) == sixL lu) with
  | false => exact readState_runD u1 u2 lu ld c w h1 h2 hu hd hc0 hc6 wu wd true true rfl rfl false _ hx1 rfl rfl
  | true => cases hx3 : (sixL (renD lu ld) == sixL ld) with
    | false => exact readState_runE u1 u2 lu ld c w h1 h2 hu hd hc0 hc6 wu wd true true rfl rfl true false hx1 hx3 ⟨rfl, rfl⟩
    | true => cases htb : twiceB (roundL lu ld) with
      | false => exact readState_runA u1 u2 lu ld c w h1 h2 hu hd hc0 hc6 wu wd true true rfl rfl true true hx1 hx3 ⟨⟨rfl, rfl⟩, htb⟩
      | true => cases hcb : decide ((canc [] (roundL lu ld)).length = 0) with
        | false => exact readState_runB u1 u2 lu ld c w h1 h2 hu hd hc0 hc6 wu wd true true rfl rfl true true hx1 hx3 ⟨⟨rfl, rfl⟩, htb, hcb⟩
        | true => exact readState_runC u1 u2 lu ld c w h1 h2 hu hd hc0 hc6 wu wd true true rfl rfl true true hx1 hx3 ⟨⟨rfl, rfl⟩, htb, hcb⟩
theorem readState_any (u1 u2 : Value) (lu ld : List Int) (c : Int) (w : World) (h1 : Rd w u1 lu) (h2 : Rd w u2 ld) (wu : Wf lu) (wd : Wf ld) :
    Calls Try.prog 39 #[.agg #[u1, u2, .int .i64 c]] w (FrOut w (if stateB lu ld c then lu else []) (if stateB lu ld c then ld else []) (if stateB lu ld c then c else 0) (stateB lu ld c)) := by
  by_cases hc : (decide (lu.length ≤ 6) && decide (ld.length ≤ 6) && inB c 0 6) = true
  · simp only [Bool.and_eq_true, decide_eq_true_eq] at hc
    have h3 := inB_iff.1 hc.2
    exact readState_run u1 u2 lu ld c w h1 h2 hc.1.1 hc.1.2 h3.1 h3.2 wu wd
  · have hc' : (decide (lu.length ≤ 6) && decide (ld.length ≤ 6) && inB c 0 6) = false := by simpa only [Bool.not_eq_true] using hc
    have e : stateB lu ld c = false := by unfold stateB; rw [hc']; simp
    rw [e]
    simp only [Bool.false_eq_true, if_false]
    exact readState_bad u1 u2 lu ld c w h1 h2 hc'
theorem state_cap (lu ld : List Int) (c : Int) : (if stateB lu ld c then lu else []).length ≤ 6 ∧ (if stateB lu ld c then ld else []).length ≤ 6 := by
  cases h : stateB lu ld c with
  | false => simp
  | true => have := state_facts h; simp only [if_true]; omega
theorem impl_IsState (u1 u2 : Value) (lu ld : List Int) (c : Int) (w : World) (h1 : Rd w u1 lu) (h2 : Rd w u2 ld) (wu : Wf lu) (wd : Wf ld) :
    Calls Try.prog 13 #[.agg #[u1, u2, .int .i64 c]] w fun e w' => e = .returned (.bool (stateB lu ld c)) ∧ Below w.heap.size w w' := by
  have B1 : Below w.heap.size w (w.alloc (.cells #[u1, u2, .int .i64 c] 27)) := Below.alloc1 w _
  have hA : StIn (w.alloc (.cells #[u1, u2, .int .i64 c] 27)) w.heap.size u1 u2 c := heap_alloc_new w _
  have hrs := readState_any u1 u2 lu ld c (w.alloc (.cells #[u1, u2, .int .i64 c] 27)) (h1.below B1) (h2.below B1) wu wd
  have hcap := state_cap lu ld c
  have k0 := hA.c0; have k1 := hA.c1; have k2 := hA.c2
  generalize (if stateB lu ld c then lu else []) = lu' at *
  generalize (if stateB lu ld c then ld else []) = ld' at *
  generalize (if stateB lu ld c then c else 0) = c' at *
  generalize stateB lu ld c = ok at *
  have HRS := Lib.hid hrs; have C1 := Lib.hid hcap.1; have C2 := Lib.hid hcap.2; have HB := Lib.hid B1
  obtain ⟨a1, c1, rfl, _⟩ := h1
  obtain ⟨a2, c2, rfl, _⟩ := h2
  clear hA hrs hcap B1
  go_enter Try.func13, Try.ntmps13
  go_wp2_with (first
    | (go_at_call 39; ((with_reducible refine HRS.out.mono ?_); rintro e w1 ⟨rfl, hb1⟩; have HB1 := Lib.hid (Below.step HB.out hb1); clear hb1))
    | ((with_reducible refine wp_storeFr rfl (.tmp 3) (.tmp 8) rfl _ lu' ld' [] [] c' 0 C1.out C2.out (Nat.zero_le _) (Nat.zero_le _) rfl rfl (fr_zero _) ?_); intro w2 hs2 hg2; have HB2 := Lib.hid ((Below.step HB1.out (Below.alloc1 _ _)).grown hg2 (by have := (Below.step HB1.out (Below.alloc1 w1 (.cells #[.int .i64 0, .int .i64 0, .int .i64 0, .int .i64 0, .int .i64 0, .int .i64 0, .int .i64 0, .int .i64 0, .int .i64 0, .int .i64 0, .int .i64 0, .int .i64 0, .int .i64 0, .int .i64 0, .int .i64 0] 60))).size; exact this) (fun k hk => by have := HB1.out.size; simp at hk; omega))))
  go_ret
  exact ⟨rfl, HB2.out⟩
end Go.Proofs.Ytkohmdhjjnmfgac
