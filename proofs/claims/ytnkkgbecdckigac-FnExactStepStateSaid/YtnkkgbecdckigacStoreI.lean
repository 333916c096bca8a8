/- A number stored into a cell, as a law for the walk. -/
import Derived.Test.YtnkkgbecdckigacSlice
import Derived.Deep.MidRow
namespace Go.Proofs.Ytnkkgbecdckigac
open Go.RowKit
set_option linter.unusedSimpArgs false
set_option linter.unusedVariables false

theorem int_info : (Try.prog.info? 3).map (·.size) = some 1 := by kernel_rfl
theorem wp_storeI {ops : Array Oper} {rest : List Oper} {o : Oper} {a : Act} {w : World} {Q : Exit → Act → World → Prop} (hgd : o.guard = none) (x y : Operand) (ho : o.op = .store 3 x y)
    (g j : Nat) (z : Int) (old : Value) (hx : a.eval x = .pointer (some ⟨g, j, none⟩)) (hy : a.eval y = .int .i64 z) (hc : w.cell? ⟨g, j, none⟩ = some old) (hf : w.frozen? ⟨g, j, none⟩ = false)
    (h : wpList Try.prog ops Q rest (a.put o.dst undef) (w.setCell ⟨g, j, none⟩ (.int .i64 z))) : wpList Try.prog ops Q (o :: rest) a w := by
  refine wpList_plain hgd fun _ hK => ?_
  have hK' := hK _ _ h
  obtain ⟨i0, hi, hz0, hz1, hz2⟩ := info_parts Try.info3
  unfold Oper.wp execOp
  simp only [ho, hx, hy, Instr.storeAt, Instr.sureAddr, Sem.run_bind, Sem.run_pure, Result.andThen_ok]
  go_simp
  exact hK'

/-- a number stored into the call's own slice -/
theorem wp_storeOwn {ops : Array Oper} {rest : List Oper} {o : Oper} {a : Act} {w : World} {Q : Exit → Act → World → Prop} (hgd : o.guard = none) (x y : Operand) (ho : o.op = .store 3 x y)
    (B g j n cc : Nat) (l : List Int) (z : Int) (hx : a.eval x = .pointer (some ⟨g, j, none⟩)) (hy : a.eval y = .int .i64 z) (hown : Own B w (.slice (some ⟨g, 0, none⟩) n cc) l) (hj : j < l.length)
    (h : ∀ w', Own B w' (.slice (some ⟨g, 0, none⟩) n cc) (l.set j z) → w.grownBy w' (some g) → wpList Try.prog ops Q rest (a.put o.dst undef) w') : wpList Try.prog ops Q (o :: rest) a w :=
  wp_storeI hgd x y ho g j z _ hx hy (hown.cellAt j hj) (hown.frozenAt j) (h _ (hown.stored j z) ⟨rfl, rfl, rfl, by simp, fun k _ hk => heap_setCell_other w ⟨g, j, none⟩ k _ (fun e => hk (by simp [e]))⟩)

end Go.Proofs.Ytnkkgbecdckigac
