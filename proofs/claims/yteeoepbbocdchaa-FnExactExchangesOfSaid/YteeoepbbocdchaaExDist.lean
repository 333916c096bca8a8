/- Distances: MergeDistance and ExchangeDistance on both sides. -/
import Derived.Test.YteeoepbbocdchaaReadArch
import Derived.Test.YteeoepbbocdchaaComps
import Derived.Test.YteeoepbbocdchaaListsLaw
import Derived.Deep.MidRow
import Derived.Deep.RegionHeld3
namespace Go.Proofs.Yteeoepbbocdchaa
open Go.RowKit
set_option linter.unusedSimpArgs false
set_option linter.unusedVariables false

theorem arched_good {t b : List Int} (h : archedB t b = true) : goodB t = true ∧ goodB b = true ∧ t.length = b.length ∧ 0 < t.length := by
  unfold archedB at h
  simp only [Bool.and_eq_true, decide_eq_true_eq] at h
  have := pairOk_facts h.1
  exact ⟨this.1, this.2.1, this.2.2, h.2⟩

def res_MergeDistance (t b : List Int) : Int := if archedB t b then ((compsL t b : Nat) : Int) - 1 else 0
def ok_MergeDistance (t b : List Int) : Bool := archedB t b




/-! ### ExchangeDistance -/
def distL (t b : List Int) : Int := ((t.length / 2 : Nat) : Int) - ((compsL t b : Nat) : Int)
def res_ExchangeDistance (t b : List Int) : Int := if pairOk t b then distL t b else 0
def ok_ExchangeDistance (t b : List Int) : Bool := pairOk t b







end Go.Proofs.Yteeoepbbocdchaa
