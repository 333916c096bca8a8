/- IsFolding and CrossedArcs in the program. -/
import Derived.Test.YtodbjkfikbkkbabCrossed
import Derived.Test.YtodbjkfikbkkbabSlice
import Derived.Test.YtodbjkfikbkkbabListsLaw
namespace Go.Proofs.Ytodbjkfikbkkbab
open Go.RowKit
set_option linter.unusedSimpArgs false
set_option linter.unusedVariables false

set_option maxHeartbeats 1000000 in
theorem isFolding_any (l : List Int) (w : World) (hs : stackB l = true) :
    Calls Try.prog 56 #[.agg (stkC l)] w (Tells w (foldB l)) := by
  have H8 := Lib.hid (stack_len hs)
  have HC := Lib.hid (fun w => crossedJoints_run l _ w hs rfl)
  have hl := crossed_len l (stack_len hs)
  have hstk : StkIn (w.alloc (.cells (stkC l) 60)) w.heap.size l := heap_alloc_new w _
  have HS := Lib.hid hstk
  unfold foldB
  obtain ⟨m, hm⟩ : ∃ m, m = (crossed l).length := ⟨_, rfl⟩
  rw [← hm] at hl ⊢
  have HM := Lib.hid hm
  clear hstk hs hm
  by_cases h0 : m = 0
  · have HD : Hid (decide (m = 0) = true) := decide_eq_true h0
    rw [HD.out]
    go_enter Try.func56, Try.ntmps56
    go_wp2_with (first
      | (with_reducible refine wp_loadStk rfl (.tmp 1) rfl w.heap.size l H8.out rfl HS.out ?_)
      | (go_at_call 81; refine (HC.out _).mono ?_; rintro e w1 ⟨v, vs, rfl, hown, hb1⟩; obtain ⟨a1, c1, rfl, _, _⟩ := hown.form; rw [← HM.out]; have HB1 := Lib.hid hb1; clear hb1 hown))
    go_ret
    exact ⟨rfl, (Below.alloc1 _ _).trans (HB1.out.mono (by simp))⟩
  · have HD : Hid (decide (m = 0) = false) := decide_eq_false h0
    rw [HD.out]
    go_enter Try.func56, Try.ntmps56
    go_wp2_with (first
      | (with_reducible refine wp_loadStk rfl (.tmp 1) rfl w.heap.size l H8.out rfl HS.out ?_)
      | (go_at_call 81; refine (HC.out _).mono ?_; rintro e w1 ⟨v, vs, rfl, hown, hb1⟩; obtain ⟨a1, c1, rfl, _, _⟩ := hown.form; rw [← HM.out]; have HB1 := Lib.hid hb1; clear hb1 hown))
    go_ret
    exact ⟨ret_b (by simp; omega), (Below.alloc1 _ _).trans (HB1.out.mono (by simp))⟩

def ok_IsFolding (l : List Int) : Bool := stackB l
def res_IsFolding (l : List Int) : Bool := stackB l && foldB l
def ok_CrossedArcs (l : List Int) : Bool := stackB l
def res_CrossedArcs (l : List Int) : List (List Int) := if stackB l then crossed l else []



end Go.Proofs.Ytodbjkfikbkkbab
