/- The program's readState at any state; IsState. -/
import Derived.Test.YtllhdmpnjcemkacReadStRA
import Derived.Test.YtllhdmpnjcemkacReadStRB
import Derived.Test.YtllhdmpnjcemkacReadStRC
import Derived.Test.YtllhdmpnjcemkacReadStRD
namespace Go.Proofs.Ytllhdmpnjcemkac
open Go.RowKit Go.Maps
set_option linter.unusedSimpArgs false
set_option linter.unusedVariables false
theorem readState_run (u1 u2 : Value) (lu ld : List Int) (c : Int) (w : World) (h1 : Rd w u1 lu) (h2 : Rd w u2 ld) (hu : lu.length ≤ 6) (hd : ld.length ≤ 6) (hc0 : 0 ≤ c) (hc6 : c ≤ 6) (wu : Wf lu) (wd : Wf ld) :
    Calls Try.prog 60 #[.agg #[u1, u2, .int .i64 c]] w (FrOut w (if stateB lu ld c then lu else []) (if stateB lu ld c then ld else []) (if stateB lu ld c then c else 0) (stateB lu ld c)) := by
  cases hx1 : (sixL (renU lu) == sixL lu) with
  | false => exact readState_runD u1 u2 lu ld c w h1 h2 hu hd hc0 hc6 wu wd true true rfl rfl false _ hx1 rfl rfl
  | true => cases hx3 : (sixL (renD lu ld) == sixL ld) with
    | false => exact readState_runE u1 u2 lu ld c w h1 h2 hu hd hc0 hc6 wu wd true true rfl rfl true false hx1 hx3 ⟨rfl, rfl⟩
    | true => cases htb : twiceB (roundL lu ld) with
      | false => exact readState_runA u1 u2 lu ld c w h1 h2 hu hd hc0 hc6 wu wd true true rfl rfl true true hx1 hx3 ⟨⟨rfl, rfl⟩, htb⟩
      | true => cases hcb : decide ((canc [] (roundL lu ld)).length = 0) with
        | false => exact readState_runB u1 u2 lu ld c w h1 h2 hu hd hc0 hc6 wu wd true true rfl rfl true true hx1 hx3 ⟨⟨rfl, rfl⟩, htb, hcb⟩
        | true => exact readState_runC u1 u2 lu ld c w h1 h2 hu hd hc0 hc6 wu wd true true rfl rfl true true hx1 hx3 ⟨⟨rfl, rfl⟩, htb, hcb⟩
theorem readState_any (u1 u2 : Value) (lu ld : List Int) (c : Int) (w : World) (h1 : Rd w u1 lu) (h2 : Rd w u2 ld) (wu : Wf lu) (wd : Wf ld) :
    Calls Try.prog 60 #[.agg #[u1, u2, .int .i64 c]] w (FrOut w (if stateB lu ld c then lu else []) (if stateB lu ld c then ld else []) (if stateB lu ld c then c else 0) (stateB lu ld c)) := by
  by_cases hc : (decide (lu.length ≤ 6) && decide (ld.length ≤ 6) && inB c 0 6) = true
  · simp only [Bool.and_eq_true, decide_eq_true_eq] at hc
    have h3 := inB_iff.1 hc.2
    exact readState_run u1 u2 lu ld c w h1 h2 hc.1.1 hc.1.2 h3.1 h3.2 wu wd
  · have hc' : (decide (lu.length ≤ 6) && decide (ld.length ≤ 6) && inB c 0 6) = false := by simpa only [Bool.not_eq_true] using hc
    have e : stateB lu ld c = false := by unfold stateB; rw [hc']; simp
    rw [e]
    simp only [Bool.false_eq_true, if_false]
    exact readState_bad u1 u2 lu ld c w h1 h2 hc'
theorem state_cap (lu ld : List Int) (c : Int) : (if stateB lu ld c then lu else []).length ≤ 6 ∧ (if stateB lu ld c then ld else []).length ≤ 6 := by
  cases h : stateB lu ld c with
  | false => simp
  | true => have := state_facts h; simp only [if_true]; omega
end Go.Proofs.Ytllhdmpnjcemkac
