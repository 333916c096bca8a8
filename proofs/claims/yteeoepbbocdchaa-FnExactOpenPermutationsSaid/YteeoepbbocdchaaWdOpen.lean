/- Open words and closed ones, in the program. -/
import Derived.Test.YteeoepbbocdchaaWdFirst
import Derived.Test.YteeoepbbocdchaaWdPeO
namespace Go.Proofs.Yteeoepbbocdchaa
open Go.RowKit
set_option linter.unusedSimpArgs false
set_option linter.unusedVariables false

set_option maxHeartbeats 1000000 in
theorem isOpen_any (l : List Int) (w : World) (hl : l.length ≤ 12) :
    Calls Try.prog 93 #[.agg (ptC l)] w (Tells w (firstCrs l).isNone) := by
  have hpt : PtIn (w.alloc (.cells (ptC l) 70)) w.heap.size l := heap_alloc_new w _
  have hf := fun w => firstCrossing_any l w hl
  have HL := Lib.hid hl; have HPT := Lib.hid hpt
  cases hF : firstCrs l with
  | none =>
    rw [hF] at hf
    have HFC := Lib.hid hf
    clear hf hF hpt hl
    go_enter Try.func93, Try.ntmps93
    go_wp2_with (first
      | (with_reducible refine wp_loadPt rfl (.tmp 1) rfl w.heap.size l HL.out rfl HPT.out ?_)
      | (go_at_call 133; refine (HFC.out _).mono ?_; rintro e w1 ⟨rfl, hb1⟩; simp only [fcV]))
    go_ret
    exact ⟨rfl, Below.step (Below.alloc1 _ _) hb1⟩
  | some p =>
    obtain ⟨i, j⟩ := p
    rw [hF] at hf
    have HFC := Lib.hid hf
    clear hf hF hpt hl
    go_enter Try.func93, Try.ntmps93
    go_wp2_with (first
      | (with_reducible refine wp_loadPt rfl (.tmp 1) rfl w.heap.size l HL.out rfl HPT.out ?_)
      | (go_at_call 133; refine (HFC.out _).mono ?_; rintro e w1 ⟨rfl, hb1⟩; simp only [fcV]))
    go_ret
    exact ⟨rfl, Below.step (Below.alloc1 _ _) hb1⟩

end Go.Proofs.Yteeoepbbocdchaa
