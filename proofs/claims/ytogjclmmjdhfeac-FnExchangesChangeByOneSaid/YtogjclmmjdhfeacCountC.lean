/- CountClosing, ClosingWith: the program's functions and the model's. -/
import Derived.Test.YtogjclmmjdhfeacPairs
import Derived.Test.YtogjclmmjdhfeacClosing
import Derived.Test.YtogjclmmjdhfeacRead
import Derived.Test.YtogjclmmjdhfeacGood
namespace Go.Proofs.Ytogjclmmjdhfeac
open Go.RowKit
set_option linter.unusedSimpArgs false
set_option linter.unusedVariables false

theorem boxP_load {ops : Array Oper} {rest : List Oper} {o : Oper} {a : Act} {w : World} {Q : Exit → Act → World → Prop} (hgd : o.guard = none) (x : Operand) (ho : o.op = .load 58 x)
    (g off : Nat) (t b : List Int) (hx : a.eval x = .pointer (some ⟨g, off, none⟩)) (hg : w.rangeAt g off (pairC t b).toList)
    (h : wpList Try.prog ops Q rest (a.put o.dst (.agg (pairC t b))) w) : wpList Try.prog ops Q (o :: rest) a w :=
  wpList_load_mid hgd _ x ho g off hx (pairC t b).toList _ hg Try.underlying58 rfl (by rw [pair_info]; rfl) h

def closeN (t : List Int) (c : Int) (L : List (List Int)) (k : Nat) : Nat := ((L.take k).filter (closeB t c)).length
theorem closeN_zero (t : List Int) (c : Int) (L : List (List Int)) : closeN t c L 0 = 0 := by simp [closeN]
theorem closeN_succ (t : List Int) (c : Int) (L : List (List Int)) (k : Nat) (hk : k < L.length) : closeN t c L (k + 1) = closeN t c L k + (if closeB t c (L.getD k []) then 1 else 0) := by
  unfold closeN
  rw [filter_take_succ _ _ _ hk, List.length_append]
  split <;> rfl
theorem closeN_le (t : List Int) (c : Int) (L : List (List Int)) (k : Nat) : closeN t c L k ≤ L.length := Nat.le_trans (List.length_filter_le _ _) (by rw [List.length_take]; omega)
theorem closeN_full (t : List Int) (c : Int) (L : List (List Int)) : closeN t c L L.length = (L.filter (closeB t c)).length := by unfold closeN; rw [List.take_length]

def ok_CountClosing (t : List Int) (c : Int) : Bool := goodB t && inB c 0 6
def res_CountClosing (t : List Int) (c : Int) : Int := if goodB t && inB c 0 6 then ((closeL t c).length : Int) else 0

/-- what holds of the systems of as many arches as a system has -/
theorem sys_half {t : List Int} (gt : goodB t = true) : ∃ m, m ≤ 6 ∧ t.length = 2 * m ∧ t.length / 2 = m ∧ (allL m).length ≤ 1000 ∧ ∀ k, k < (allL m).length → goodB ((allL m).getD k []) = true ∧ t.length = ((allL m).getD k []).length := by
  have h1 := good_len' gt
  have h2 := (good_facts gt).1
  refine ⟨t.length / 2, by omega, by omega, rfl, ?_, fun k hk => ?_⟩
  · rw [allL_length (by omega)]
    exact (show ∀ m, m < 7 → catN m ≤ 1000 by decide) _ (by omega)
  · have h := allL_good (n := t.length / 2) (by omega) hk
    exact ⟨h.1, by rw [h.2]; omega⟩
theorem under_get {t : List Int} {m : Nat} (hm : t.length / 2 = m) (k : Nat) (hk : k < (allL m).length) : (underL t).getD k ([], []) = (t, (allL m).getD k []) := by
  unfold underL
  rw [hm]
  simp [List.getD, hk]
theorem under_len {t : List Int} {m : Nat} (hm : t.length / 2 = m) : (underL t).length = (allL m).length := by unfold underL; rw [hm, List.length_map]



end Go.Proofs.Ytogjclmmjdhfeac
