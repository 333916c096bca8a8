/- ComponentsOf, IsMeander, CurveOfPoints, WayFrom: the program's functions and the model's. -/
import Derived.Test.YteeoepbbocdchaaMeCol
import Derived.Test.YteeoepbbocdchaaWalk
import Derived.Test.YteeoepbbocdchaaReadPair
import Derived.Test.YteeoepbbocdchaaNum
import Derived.Lib.SliceRun
namespace Go.Proofs.Yteeoepbbocdchaa
open Go.RowKit
set_option linter.unusedSimpArgs false
set_option linter.unusedVariables false

def compsL (t b : List Int) : Nat := cntW (par t) (par b) t.length
theorem compsL_nil : compsL [] [] = 0 := rfl
theorem compsL_le (t b : List Int) : compsL t b ≤ t.length := cnt_le _ _ _
def ok_ComponentsOf (t b : List Int) : Bool := pairOk t b
def res_ComponentsOf (t b : List Int) : Int := if pairOk t b then ((compsL t b : Nat) : Int) else 0
def ok_IsMeander (t b : List Int) : Bool := pairOk t b
def res_IsMeander (t b : List Int) : Bool := pairOk t b && decide (compsL t b = 1)
def ok_CurveOfPoints (t b : List Int) : Bool := pairOk t b
def res_CurveOfPoints (t b : List Int) : List Int := if pairOk t b then colN (par t) (par b) t.length else []
theorem len_CurveOfPoints (t b : List Int) : (res_CurveOfPoints t b).length ≤ 1000000 := by
  unfold res_CurveOfPoints
  cases h : pairOk t b with
  | false => simp
  | true =>
    obtain ⟨g1, g2, _⟩ := pairOk_facts h
    have := good_len' g1
    have : (colN (par t) (par b) t.length).length = t.length := colS_length _ _ _ _
    simp; omega
def ok_WayFrom (t b : List Int) (x : Int) : Bool := pairOk t b && inB x 0 ((t.length : Int) - 1)
def res_WayFrom (t b : List Int) (x : Int) : List Int := if ok_WayFrom t b x then wayV (par t) (par b) t.length x.toNat else []
theorem len_WayFrom (t b : List Int) (x : Int) : (res_WayFrom t b x).length ≤ 1000000 := by
  unfold res_WayFrom
  cases h : ok_WayFrom t b x with
  | false => simp
  | true =>
    simp only [ok_WayFrom, Bool.and_eq_true] at h
    obtain ⟨g1, g2, _⟩ := pairOk_facts h.1
    have := good_len' g1
    have := wayV_len (par t) (par b) t.length x.toNat
    simp; omega
/-- what readPair gives is a pair, if only the empty one -/
theorem read_good (t b : List Int) : goodB (if pairOk t b then t else []) = true ∧ goodB (if pairOk t b then b else []) = true ∧ (if pairOk t b then t else []).length = (if pairOk t b then b else []).length := by
  cases h : pairOk t b with
  | false => exact ⟨rfl, rfl, rfl⟩
  | true => simpa using pairOk_facts h

