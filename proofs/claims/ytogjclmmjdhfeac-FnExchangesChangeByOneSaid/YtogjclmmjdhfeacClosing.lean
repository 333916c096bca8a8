/- meClosing: the model's list of the systems that make k curves with a system. -/
import Derived.Test.YtogjclmmjdhfeacAhAll
import Derived.Test.YtogjclmmjdhfeacComps
namespace Go.Proofs.Ytogjclmmjdhfeac
open Go.RowKit
set_option linter.unusedSimpArgs false
set_option linter.unusedVariables false

theorem rows_good : (List.range 7).all (fun n => (allL n).all (fun q => goodB q && decide (q.length = 2 * n))) = true := by kernel_rfl
theorem allL_good {n k : Nat} (hn : n ≤ 6) (hk : k < (allL n).length) : goodB ((allL n).getD k []) = true ∧ ((allL n).getD k []).length = 2 * n := by
  have h1 := List.all_eq_true.1 rows_good n (List.mem_range.2 (by omega))
  have h2 := List.all_eq_true.1 h1 ((allL n).getD k []) (by simp [List.getD, hk])
  simpa using h2

def closeB (t : List Int) (c : Int) (q : List Int) : Bool := ((compsL t q : Nat) : Int) == c
def closeL (t : List Int) (c : Int) : List (List Int) := (allL (t.length / 2)).filter (closeB t c)

end Go.Proofs.Ytogjclmmjdhfeac
