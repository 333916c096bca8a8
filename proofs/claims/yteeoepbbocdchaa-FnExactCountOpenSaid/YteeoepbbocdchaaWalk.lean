/- The program's walk round a curve; the curves of a pair. -/
import Derived.Test.YteeoepbbocdchaaWay
import Derived.Test.YteeoepbbocdchaaReadPair
import Derived.Test.YteeoepbbocdchaaJoin
import Derived.Deep.LoopGhost
import Derived.Deep.RegionHeld3
import Derived.Deep.MidRow
import Derived.Deep.DeepCutAuto
namespace Go.Proofs.Yteeoepbbocdchaa
open Go.RowKit
set_option linter.unusedSimpArgs false
set_option linter.unusedVariables false

theorem Below.setCells {B : Nat} {a : World} (b : Nat) (hB : B ≤ b) : ∀ (vs : List Value) (o : Nat) (w : World), Below B a w → Below B a (w.setCells b o vs)
  | [], _, _, h => h
  | v :: r, o, w, h => Below.setCells b hB r (o + 1) _ (h.setCell (p := ⟨b, o, none⟩) hB v)

theorem pairC_top (t b : List Int) (k : Nat) (hk : k < 12) : (pairC t b)[k]? = some (.int .i64 (t.getD k 0)) := by
  have e2 : k = 0 ∨ k = 1 ∨ k = 2 ∨ k = 3 ∨ k = 4 ∨ k = 5 ∨ k = 6 ∨ k = 7 ∨ k = 8 ∨ k = 9 ∨ k = 10 ∨ k = 11 := by omega
  rcases e2 with rfl | rfl | rfl | rfl | rfl | rfl | rfl | rfl | rfl | rfl | rfl | rfl <;> rfl
theorem pairC_bot (t b : List Int) (k : Nat) (hk : k < 12) : (pairC t b)[13 + k]? = some (.int .i64 (b.getD k 0)) := by
  have e2 : k = 0 ∨ k = 1 ∨ k = 2 ∨ k = 3 ∨ k = 4 ∨ k = 5 ∨ k = 6 ∨ k = 7 ∨ k = 8 ∨ k = 9 ∨ k = 10 ∨ k = 11 := by omega
  rcases e2 with rfl | rfl | rfl | rfl | rfl | rfl | rfl | rfl | rfl | rfl | rfl | rfl <;> rfl
theorem PairIn.topAt {w : World} {g : Nat} {t b : List Int} (h : PairIn w g t b) (k : Nat) (hk : k < 12) : w.cell? ⟨g, k, none⟩ = some (.int .i64 (t.getD k 0)) := by rw [cell_of_row w g _ _ _ _ h]; exact pairC_top t b k hk
theorem PairIn.botAt {w : World} {g : Nat} {t b : List Int} (h : PairIn w g t b) (k : Nat) (hk : k < 12) : w.cell? ⟨g, 13 + k, none⟩ = some (.int .i64 (b.getD k 0)) := by rw [cell_of_row w g _ _ _ _ h]; exact pairC_bot t b k hk
theorem PairIn.sizeAt {w : World} {g : Nat} {t b : List Int} (h : PairIn w g t b) : w.cell? ⟨g, 12, none⟩ = some (.int .i64 (t.length : Int)) := by rw [cell_of_row w g _ _ _ _ h]; rfl
theorem PairIn.new (w : World) (t b : List Int) : PairIn (w.alloc (.cells (pairC t b) 149)) w.heap.size t b := heap_alloc_new w _
theorem PairIn.setOther {w : World} {g b' i : Nat} {t b : List Int} {v : Value} (h : PairIn w g t b) (hne : g ≠ b') : PairIn (w.setCell ⟨b', i, none⟩ v) g t b := (heap_setCell_other w ⟨b', i, none⟩ g v hne).trans h
/-- a whole pair read out of a variable -/
theorem wp_loadPair {ops : Array Oper} {rest : List Oper} {o : Oper} {a : Act} {w : World} {Q : Exit → Act → World → Prop} (hgd : o.guard = none) (x : Operand) (ho : o.op = .load 149 x)
    (g : Nat) (t b : List Int) (hx : a.eval x = .pointer (some ⟨g, 0, none⟩)) (hg : PairIn w g t b)
    (h : wpList Try.prog ops Q rest (a.put o.dst (.agg (pairC t b))) w) : wpList Try.prog ops Q (o :: rest) a w :=
  wpList_load_row hgd _ x ho g hx _ (pairC t b) (0, 0) _ hg Try.underlying149 rfl (by rw [pair_info, pairC_size]) h
theorem wp_loadPairG {ops : Array Oper} {rest : List Oper} {o : Oper} {a : Act} {w : World} {Q : Exit → Act → World → Prop} (x : Operand) (ho : o.op = .load 149 x)
    (g : Nat) (t b : List Int) (hx : a.eval x = .pointer (some ⟨g, 0, none⟩)) (hg : PairIn w g t b) (hw : Region.wanted o (yielded ops a.tmps) = true)
    (h : wpList Try.prog ops Q rest (a.put o.dst (.agg (pairC t b))) w) : wpList Try.prog ops Q (o :: rest) a w :=
  wpList_wanted hw fun _ hK => wp_load_row _ x ho g hx _ (pairC t b) (0, 0) _ hg Try.underlying149 rfl (by rw [pair_info, pairC_size]) (hK _ _ h)

theorem pairSize_any (t b : List Int) (w : World) : Calls Try.prog 142 #[.agg (pairC t b)] w fun e w' => e = .returned (.int .i64 (t.length : Int)) ∧ Below w.heap.size w w' := by
  have hc := (PairIn.new w t b).sizeAt
  go_enter Try.func142, Try.ntmps142
  go_wp2
  go_ret
  exact ⟨rfl, Below.alloc1 _ _⟩




end Go.Proofs.Yteeoepbbocdchaa
