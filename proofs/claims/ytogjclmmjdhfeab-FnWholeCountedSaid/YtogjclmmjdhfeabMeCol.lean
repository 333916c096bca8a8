/- The model's way round a curve. -/
/- The model's colours of points, and how many there are. -/
import Derived.Test.YtogjclmmjdhfeabWay
import Derived.Test.YtogjclmmjdhfeabMeander
import Derived.Test.YtogjclmmjdhfeabOwn
import Derived.Deep.LoopGhost
import Derived.Deep.QuietTactic
import Derived.BigQuiet
import Derived.Test.YtogjclmmjdhfeabJoin
namespace Go.Proofs.Ytogjclmmjdhfeab
open Go.RowKit
set_option linter.unusedSimpArgs false
set_option linter.unusedVariables false


end Go.Proofs.Ytogjclmmjdhfeab

namespace Go.Proofs.Ytogjclmmjdhfeab
open Go.RowKit
set_option linter.unusedSimpArgs false
set_option linter.unusedVariables false

theorem rep_set (n k : Nat) (hk : k < n) : (List.replicate k (-1 : Int) ++ List.replicate (n - k) 0).set k (-1) = List.replicate (k + 1) (-1) ++ List.replicate (n - (k + 1)) 0 := by
  have e : List.replicate (n - k) (0 : Int) = 0 :: List.replicate (n - (k + 1)) 0 := by
    rw [show n - k = (n - (k + 1)) + 1 by omega, List.replicate_succ]
  rw [e, List.set_append_right _ _ (by simp), List.length_replicate, Nat.sub_self, List.set_cons_zero, List.replicate_succ', List.append_assoc]
  rfl
theorem colS_yes {t b : Nat → Nat} {n k : Nat} (h : 0 ≤ (colS t b n k).1.getD k 0) : colS t b n (k + 1) = colS t b n k := by rw [colS, if_pos h]
theorem colS_no {t b : Nat → Nat} {n k : Nat} (h : ¬ 0 ≤ (colS t b n k).1.getD k 0) : colS t b n (k + 1) = (paint (colS t b n k).1 (wayN t b n k) ((colS t b n k).2 : Int), (colS t b n k).2 + 1) := by rw [colS, if_neg h]
theorem paint_take (c : List Int) (W : List Nat) (v : Int) (j : Nat) (hj : j < W.length) : paint c (W.take (j + 1)) v = (paint c (W.take j) v).set (W.getD j 0) v := by
  rw [List.take_succ_eq_append_getElem hj, paint_snoc]
  simp [List.getD, hj]
theorem wayV_getD (t b : Nat → Nat) (n i j : Nat) (hj : j < (wayN t b n i).length) : (wayV t b n i).getD j 0 = (((wayN t b n i).getD j 0 : Nat) : Int) := by
  simp [wayV, List.getD, hj]
theorem getD_mem {W : List Nat} {j : Nat} (hj : j < W.length) : W.getD j 0 ∈ W := by
  simp [List.getD, hj]




end Go.Proofs.Ytogjclmmjdhfeab
