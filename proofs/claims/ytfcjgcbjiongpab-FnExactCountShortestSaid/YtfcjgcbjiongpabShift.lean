/- Lists with a number added to each; copies. -/
/- Two lists compared. -/
/- A number stored into a cell, as a law for the walk. -/
import Derived.Test.YtfcjgcbjiongpabSlice
import Derived.Test.YtfcjgcbjiongpabGood
import Derived.Deep.MidRow
namespace Go.Proofs.Ytfcjgcbjiongpab
open Go.RowKit
set_option linter.unusedSimpArgs false
set_option linter.unusedVariables false

def shiftL (l : List Int) (b : Int) : List Int := l.map (· + b)
theorem shiftL_length (l : List Int) (b : Int) : (shiftL l b).length = l.length := by simp [shiftL]
theorem shift_snoc (l : List Int) (b : Int) (k : Nat) (h : k < l.length) : shiftL (l.take (k + 1)) b = shiftL (l.take k) b ++ [l.getD k 0 + b] := by
  unfold shiftL
  rw [List.take_succ_eq_append_getElem h, List.map_append]
  simp [List.getD, h]

/-- what an empty slice that is not nil owns -/
theorem Own.lit0 (B : Nat) (w : World) (hB : B ≤ w.heap.size) : Own B (w.alloc (.cells #[] 3)) (.slice (some ⟨w.heap.size, 0, none⟩) 0 0) [] :=
  World.ownsRow_lit w #[] 0 hB (by unfold maxLen; omega) rfl

set_option maxHeartbeats 1000000 in
theorem l1Own_any (v : Value) (l : List Int) (w : World) (h : Rd w v l) (hl : l.length ≤ 1000000) : Calls Try.prog 65 #[v] w (Made w l) := by
  have HR := Lib.hid h; have HL := Lib.hid hl; clear h hl
  go_enter Try.func65, Try.ntmps65
  go_wp2_with (at_builtin; refine wp_append _ rfl _ _ rfl w.heap.size _ v [] l rfl rfl (Own.lit0 _ _ (Nat.le_refl _)) (Rd.below HR.out (Below.alloc1 _ _)) (by have := HL.out; simp; omega) (by simp) ?_; intro v' w1 hown1 hgr hbel1)
  go_ret
  exact ⟨_, rfl, hown1, (Below.alloc1 _ _).trans hbel1⟩

end Go.Proofs.Ytfcjgcbjiongpab

namespace Go.Proofs.Ytfcjgcbjiongpab
open Go.RowKit
set_option linter.unusedSimpArgs false
set_option linter.unusedVariables false

theorem list_eq_of {a b : List Int} (hl : a.length = b.length) (h : allFrom (fun i => decide (a.getD i 0 = b.getD i 0)) 0 a.length = true) : a = b := by
  refine List.ext_getElem hl fun i h1 h2 => ?_
  have := (allFrom_iff _ _ _).1 h i (Nat.zero_le _) (by omega)
  simpa [List.getD, h1, h2] using this

def Tells0 (w : World) (b : Bool) (e : Ending) (w' : World) : Prop := e = .returned (.bool b) ∧ ∃ q, w' = w.drewN q
theorem Tells0.below {w : World} {b : Bool} {e : Ending} {w' : World} (h : Tells0 w b e w') : e = .returned (.bool b) ∧ Below w.heap.size w w' := by
  obtain ⟨h1, q, rfl⟩ := h
  exact ⟨h1, below_drewN (Below.refl _ _) q⟩

end Go.Proofs.Ytfcjgcbjiongpab

namespace Go.Proofs.Ytfcjgcbjiongpab
open Go.RowKit
set_option linter.unusedSimpArgs false
set_option linter.unusedVariables false

theorem int_info : (Try.prog.info? 3).map (·.size) = some 1 := by kernel_rfl
theorem wp_storeI {ops : Array Oper} {rest : List Oper} {o : Oper} {a : Act} {w : World} {Q : Exit → Act → World → Prop} (hgd : o.guard = none) (x y : Operand) (ho : o.op = .store 3 x y)
    (g j : Nat) (z : Int) (old : Value) (hx : a.eval x = .pointer (some ⟨g, j, none⟩)) (hy : a.eval y = .int .i64 z) (hc : w.cell? ⟨g, j, none⟩ = some old) (hf : w.frozen? ⟨g, j, none⟩ = false)
    (h : wpList Try.prog ops Q rest (a.put o.dst undef) (w.setCell ⟨g, j, none⟩ (.int .i64 z))) : wpList Try.prog ops Q (o :: rest) a w := by
  refine wpList_plain hgd fun _ hK => ?_
  have hK' := hK _ _ h
  obtain ⟨i0, hi, hz0, hz1, hz2⟩ := info_parts Try.info3
  unfold Oper.wp execOp
  simp only [ho, hx, hy, Instr.storeAt, Instr.sureAddr, Sem.run_bind, Sem.run_pure, Result.andThen_ok]
  go_simp
  exact hK'

/-- a number stored into the call's own slice -/
theorem wp_storeOwn {ops : Array Oper} {rest : List Oper} {o : Oper} {a : Act} {w : World} {Q : Exit → Act → World → Prop} (hgd : o.guard = none) (x y : Operand) (ho : o.op = .store 3 x y)
    (B g j n cc : Nat) (l : List Int) (z : Int) (hx : a.eval x = .pointer (some ⟨g, j, none⟩)) (hy : a.eval y = .int .i64 z) (hown : Own B w (.slice (some ⟨g, 0, none⟩) n cc) l) (hj : j < l.length)
    (h : ∀ w', Own B w' (.slice (some ⟨g, 0, none⟩) n cc) (l.set j z) → w.grownBy w' (some g) → wpList Try.prog ops Q rest (a.put o.dst undef) w') : wpList Try.prog ops Q (o :: rest) a w :=
  wp_storeI hgd x y ho g j z _ hx hy (hown.cellAt j hj) (hown.frozenAt j) (h _ (hown.stored j z) ⟨rfl, rfl, rfl, by simp, fun k _ hk => heap_setCell_other w ⟨g, j, none⟩ k _ (fun e => hk (by simp [e]))⟩)

end Go.Proofs.Ytfcjgcbjiongpab
