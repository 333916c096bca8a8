/- IsSemi and WindingOf: the program's functions and the model's. -/
import Derived.Test.YteeoepbbocdchaaSemi
namespace Go.Proofs.Yteeoepbbocdchaa
open Go.RowKit
set_option linter.unusedSimpArgs false
set_option linter.unusedVariables false

def ok_IsSemi (l : List Int) : Bool := goodB l && decide (l.length ≠ 0)
def res_IsSemi (l : List Int) : Bool := goodB l && decide (l.length ≠ 0) && semiB l




/-- the winding, counted so far -/
def wndN (l : List Int) (q : Nat) : Nat → Nat
  | 0 => 0
  | k + 1 => wndN l q k + if (q : Int) ≤ l.getD k 0 then 1 else 0
def wnd (l : List Int) : Nat := wndN l (l.length / 2) (l.length / 2)
theorem wndN_le (l : List Int) (q : Nat) : ∀ k, wndN l q k ≤ k
  | 0 => by simp [wndN]
  | k + 1 => by have := wndN_le l q k; simp only [wndN]; split <;> omega
theorem wndN_yes {l : List Int} {q k : Nat} (h : (q : Int) ≤ l.getD k 0) : wndN l q (k + 1) = wndN l q k + 1 := by simp only [wndN, if_pos h]
theorem wndN_no {l : List Int} {q k : Nat} (h : ¬ (q : Int) ≤ l.getD k 0) : wndN l q (k + 1) = wndN l q k := by simp only [wndN, if_neg h, Nat.add_zero]


def ok_WindingOf (l : List Int) : Bool := goodB l
def res_WindingOf (l : List Int) : Int := if goodB l then ((wnd l : Nat) : Int) else 0




theorem semi_pos {l : List Int} (h : semiB l = true) : l.length ≠ 0 := by
  intro h0
  have : l = [] := List.eq_nil_of_length_eq_zero h0
  subst this
  revert h
  decide +kernel

end Go.Proofs.Yteeoepbbocdchaa
