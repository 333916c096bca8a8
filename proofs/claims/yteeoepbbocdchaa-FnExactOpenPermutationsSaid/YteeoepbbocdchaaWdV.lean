/- The cells of a word, one by one; the methods that a word gets from its points. -/
import Derived.Test.YteeoepbbocdchaaPtV
namespace Go.Proofs.Yteeoepbbocdchaa
open Go.RowKit
set_option linter.unusedSimpArgs false
set_option linter.unusedVariables false

def ixV (b : List Int) (i : Nat) : Value := .int .i64 (b.getD i 0)
theorem wdC_lit {l b : List Int} (h : l.length ≤ 12) (hb : b.length = 12) : wdC l b = #[ptV l 0, ptV l 1, ptV l 2, ptV l 3, ptV l 4, ptV l 5, ptV l 6, ptV l 7, ptV l 8, ptV l 9, ptV l 10, ptV l 11, ptV l 12, ixV b 0, ixV b 1, ixV b 2, ixV b 3, ixV b 4, ixV b 5, ixV b 6, ixV b 7, ixV b 8, ixV b 9, ixV b 10, ixV b 11] := by
  refine Array.ext (by rw [wdC_size h hb]; rfl) fun i h1 h2 => ?_
  have hi : i < 25 := by rw [wdC_size h hb] at h1; exact h1
  by_cases h13 : i < 13
  · have e : (wdC l b)[i]? = some (ptV l i) := by
      unfold ptV
      split
      · next h3 => exact wdC_get h i h3
      · obtain rfl : i = 12 := by omega
        exact wdC_last h
    rw [Array.getElem?_eq_getElem h1] at e
    have e2 : i = 0 ∨ i = 1 ∨ i = 2 ∨ i = 3 ∨ i = 4 ∨ i = 5 ∨ i = 6 ∨ i = 7 ∨ i = 8 ∨ i = 9 ∨ i = 10 ∨ i = 11 ∨ i = 12 := by omega
    rcases e2 with rfl | rfl | rfl | rfl | rfl | rfl | rfl | rfl | rfl | rfl | rfl | rfl | rfl <;> simpa using e
  · obtain ⟨x, rfl⟩ : ∃ x, i = 13 + x := ⟨i - 13, by omega⟩
    have e : (wdC l b)[13 + x]? = some (ixV b x) := wdC_idx h hb x (by omega)
    rw [Array.getElem?_eq_getElem h1] at e
    have e2 : x = 0 ∨ x = 1 ∨ x = 2 ∨ x = 3 ∨ x = 4 ∨ x = 5 ∨ x = 6 ∨ x = 7 ∨ x = 8 ∨ x = 9 ∨ x = 10 ∨ x = 11 := by omega
    rcases e2 with rfl | rfl | rfl | rfl | rfl | rfl | rfl | rfl | rfl | rfl | rfl | rfl <;> simpa using e


set_option maxRecDepth 100000 in
theorem metlit_isOpen (f : Nat) (x0 x1 x2 x3 x4 x5 x6 x7 x8 x9 x10 x11 x12 x13 x14 x15 x16 x17 x18 x19 x20 x21 x22 x23 x24 : Value) (w : World) :
    Sem.run Try.prog (method (f + 1) 72 (.agg #[x0, x1, x2, x3, x4, x5, x6, x7, x8, x9, x10, x11, x12, x13, x14, x15, x16, x17, x18, x19, x20, x21, x22, x23, x24]) "loop.example/g01126/impl.isOpen") w = .ok (93, .agg #[x0, x1, x2, x3, x4, x5, x6, x7, x8, x9, x10, x11, x12]) w := by kernel_rfl
set_option maxRecDepth 100000 in
theorem met_isOpen {f : Nat} {l b : List Int} {w : World} (h : l.length ≤ 12) (hb : b.length = 12) :
    Sem.run Try.prog (method (f + 1) 72 (.agg (wdC l b)) "loop.example/g01126/impl.isOpen") w = .ok (93, .agg (ptC l)) w := by
  rw [wdC_lit h hb, ptC_lit h]
  exact metlit_isOpen f _ _ _ _ _ _ _ _ _ _ _ _ _ _ _ _ _ _ _ _ _ _ _ _ _ w
set_option maxRecDepth 100000 in
theorem enter_isOpen (x : Value) (w : World) : Sem.run Try.prog (callFunc 93 #[x]) w = .ok (.enter 93 #[x]) w := by kernel_rfl
set_option maxRecDepth 100000 in
theorem metcall_isOpen {f : Nat} {l b : List Int} {w : World} (h : l.length ≤ 12) (hb : b.length = 12) :
    ((Sem.run Try.prog (method (f + 1) 72 (.agg (wdC l b)) "loop.example/g01126/impl.isOpen") w).andThen fun a w' => Sem.run Try.prog (callFunc a.fst #[a.snd]) w') = .ok (.enter 93 #[.agg (ptC l)]) w := by
  rw [met_isOpen h hb]
  exact enter_isOpen _ w

set_option maxRecDepth 100000 in
theorem metlit_list (f : Nat) (x0 x1 x2 x3 x4 x5 x6 x7 x8 x9 x10 x11 x12 x13 x14 x15 x16 x17 x18 x19 x20 x21 x22 x23 x24 : Value) (w : World) :
    Sem.run Try.prog (method (f + 1) 72 (.agg #[x0, x1, x2, x3, x4, x5, x6, x7, x8, x9, x10, x11, x12, x13, x14, x15, x16, x17, x18, x19, x20, x21, x22, x23, x24]) "loop.example/g01126/impl.list") w = .ok (135, .agg #[x0, x1, x2, x3, x4, x5, x6, x7, x8, x9, x10, x11, x12]) w := by kernel_rfl
set_option maxRecDepth 100000 in
theorem met_list {f : Nat} {l b : List Int} {w : World} (h : l.length ≤ 12) (hb : b.length = 12) :
    Sem.run Try.prog (method (f + 1) 72 (.agg (wdC l b)) "loop.example/g01126/impl.list") w = .ok (135, .agg (ptC l)) w := by
  rw [wdC_lit h hb, ptC_lit h]
  exact metlit_list f _ _ _ _ _ _ _ _ _ _ _ _ _ _ _ _ _ _ _ _ _ _ _ _ _ w
set_option maxRecDepth 100000 in
theorem enter_list (x : Value) (w : World) : Sem.run Try.prog (callFunc 135 #[x]) w = .ok (.enter 135 #[x]) w := by kernel_rfl
set_option maxRecDepth 100000 in
theorem metcall_list {f : Nat} {l b : List Int} {w : World} (h : l.length ≤ 12) (hb : b.length = 12) :
    ((Sem.run Try.prog (method (f + 1) 72 (.agg (wdC l b)) "loop.example/g01126/impl.list") w).andThen fun a w' => Sem.run Try.prog (callFunc a.fst #[a.snd]) w') = .ok (.enter 135 #[.agg (ptC l)]) w := by
  rw [met_list h hb]
  exact enter_list _ w

end Go.Proofs.Yteeoepbbocdchaa
