/- StepsOf: the program's function and the model's. -/
import Derived.Test.YtfcjgcbjiongpaaComps
import Derived.Test.YtfcjgcbjiongpaaPoints
namespace Go.Proofs.Ytfcjgcbjiongpaa
open Go.RowKit
set_option linter.unusedSimpArgs false
set_option linter.unusedVariables false

def stepV (t b : List Int) (i : Nat) : Int := (if t.getD i 0 < (i : Int) then 2 else 0) + (if b.getD i 0 < (i : Int) then 1 else 0)
def stepsL (t b : List Int) (k : Nat) : List Int := (List.range k).map (stepV t b)
theorem stepsL_succ (t b : List Int) (k : Nat) : stepsL t b (k + 1) = stepsL t b k ++ [stepV t b k] := by simp [stepsL, List.range_succ]
theorem stepsL_length (t b : List Int) (k : Nat) : (stepsL t b k).length = k := by simp [stepsL]
theorem steps_fill (t b : List Int) (n k : Nat) (hk : k < n) : (stepsL t b k ++ List.replicate (n - k) 0).set k (stepV t b k) = stepsL t b (k + 1) ++ List.replicate (n - (k + 1)) 0 := by
  have e : List.replicate (n - k) (0 : Int) = 0 :: List.replicate (n - (k + 1)) 0 := by
    rw [show n - k = (n - (k + 1)) + 1 by omega, List.replicate_succ]
  rw [e, List.set_append_right _ _ (by rw [stepsL_length]; exact Nat.le_refl _), stepsL_length, Nat.sub_self, List.set_cons_zero, stepsL_succ, List.append_assoc]
  rfl
theorem stepV_in (t b : List Int) (i : Nat) : 0 ≤ stepV t b i ∧ stepV t b i ≤ 3 := by unfold stepV; split <;> split <;> omega
def ok_StepsOf (t b : List Int) : Bool := pairOk t b
def res_StepsOf (t b : List Int) : List Int := if pairOk t b then stepsL t b t.length else []
theorem len_StepsOf (t b : List Int) : (res_StepsOf t b).length ≤ 1000000 := by
  unfold res_StepsOf
  cases h : pairOk t b with
  | false => simp
  | true =>
    obtain ⟨g1, g2, _⟩ := pairOk_facts h
    have := good_len' g1
    simp [stepsL_length]; omega


theorem PairIn.topRange {w : World} {g : Nat} {t b : List Int} (h : PairIn w g t b) (hl : t.length ≤ 12) : w.rangeAt g 0 (sysL t) := by
  intro j v hv
  have hj : j < 13 := by
    have := (List.getElem?_eq_some_iff.1 hv).1
    rwa [sysL_length hl] at this
  rw [Nat.zero_add, cell_of_row w g _ _ _ _ h]
  have e1 : (sysC t)[j]? = some v := by simpa [sysC] using hv
  rw [sysC_lit hl] at e1
  have e2 : j = 0 ∨ j = 1 ∨ j = 2 ∨ j = 3 ∨ j = 4 ∨ j = 5 ∨ j = 6 ∨ j = 7 ∨ j = 8 ∨ j = 9 ∨ j = 10 ∨ j = 11 ∨ j = 12 := by omega
  rcases e2 with rfl | rfl | rfl | rfl | rfl | rfl | rfl | rfl | rfl | rfl | rfl | rfl | rfl <;> exact e1
theorem PairIn.botRange {w : World} {g : Nat} {t b : List Int} (h : PairIn w g t b) (hl : b.length ≤ 12) : w.rangeAt g 13 (sysL b) := by
  intro j v hv
  have hj : j < 13 := by
    have := (List.getElem?_eq_some_iff.1 hv).1
    rwa [sysL_length hl] at this
  rw [cell_of_row w g _ _ _ _ h]
  have e1 : (sysC b)[j]? = some v := by simpa [sysC] using hv
  rw [sysC_lit hl] at e1
  have e2 : j = 0 ∨ j = 1 ∨ j = 2 ∨ j = 3 ∨ j = 4 ∨ j = 5 ∨ j = 6 ∨ j = 7 ∨ j = 8 ∨ j = 9 ∨ j = 10 ∨ j = 11 ∨ j = 12 := by omega
  rcases e2 with rfl | rfl | rfl | rfl | rfl | rfl | rfl | rfl | rfl | rfl | rfl | rfl | rfl <;> exact e1
/-- one of both systems read out of a pair's variable -/
theorem wp_loadTop {ops : Array Oper} {rest : List Oper} {o : Oper} {a : Act} {w : World} {Q : Exit → Act → World → Prop} (hgd : o.guard = none) (x : Operand) (ho : o.op = .load 49 x)
    (g : Nat) (t b : List Int) (hl : t.length ≤ 12) (hx : a.eval x = .pointer (some ⟨g, 0, none⟩)) (hg : PairIn w g t b)
    (h : wpList Try.prog ops Q rest (a.put o.dst (.agg (sysC t))) w) : wpList Try.prog ops Q (o :: rest) a w :=
  wpList_load_mid hgd _ x ho g 0 hx (sysL t) _ (hg.topRange hl) Try.underlying49 rfl (by rw [sys_info, sysL_length hl]) h
theorem wp_loadBot {ops : Array Oper} {rest : List Oper} {o : Oper} {a : Act} {w : World} {Q : Exit → Act → World → Prop} (hgd : o.guard = none) (x : Operand) (ho : o.op = .load 49 x)
    (g : Nat) (t b : List Int) (hl : b.length ≤ 12) (hx : a.eval x = .pointer (some ⟨g, 13, none⟩)) (hg : PairIn w g t b)
    (h : wpList Try.prog ops Q rest (a.put o.dst (.agg (sysC b))) w) : wpList Try.prog ops Q (o :: rest) a w :=
  wpList_load_mid hgd _ x ho g 13 hx (sysL b) _ (hg.botRange hl) Try.underlying49 rfl (by rw [sys_info, sysL_length hl]) h


end Go.Proofs.Ytfcjgcbjiongpaa
