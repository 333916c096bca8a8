/- IsFolding and CrossedArcs in the program. -/
import Derived.Test.YtnkkgbecdckigaaCrossed
import Derived.Test.YtnkkgbecdckigaaSlice
import Derived.Test.YtnkkgbecdckigaaListsLaw
namespace Go.Proofs.Ytnkkgbecdckigaa
open Go.RowKit
set_option linter.unusedSimpArgs false
set_option linter.unusedVariables false

set_option maxHeartbeats 1000000 in
theorem isFolding_any (l : List Int) (w : World) (hs : stackB l = true) :
    Calls Try.prog 37 #[.agg (stkC l)] w (Tells w (foldB l)) := by
  have H8 := Lib.hid (stack_len hs)
  have HC := Lib.hid (fun w => crossedJoints_run l _ w hs rfl)
  have hl := crossed_len l (stack_len hs)
  have hstk : StkIn (w.alloc (.cells (stkC l) 42)) w.heap.size l := heap_alloc_new w _
  have HS := Lib.hid hstk
  unfold foldB
  obtain ⟨m, hm⟩ : ∃ m, m = (crossed l).length := ⟨_, rfl⟩
  rw [← hm] at hl ⊢
  have HM := Lib.hid hm
  clear hstk hs hm
  by_cases h0 : m = 0
  · have HD : Hid (decide (m = 0) = true) := decide_eq_true h0
    rw [HD.out]
    go_enter Try.func37, Try.ntmps37
    go_wp2_with (first
      | (with_reducible refine wp_loadStk rfl (.tmp 1) rfl w.heap.size l H8.out rfl HS.out ?_)
      | (go_at_call 39; refine (HC.out _).mono ?_; rintro e w1 ⟨v, vs, rfl, hown, hb1⟩; obtain ⟨a1, c1, rfl, _, _⟩ := hown.form; rw [← HM.out]; have HB1 := Lib.hid hb1; clear hb1 hown))
    go_ret
    exact ⟨rfl, (Below.alloc1 _ _).trans (HB1.out.mono (by simp))⟩
  · have HD : Hid (decide (m = 0) = false) := decide_eq_false h0
    rw [HD.out]
    go_enter Try.func37, Try.ntmps37
    go_wp2_with (first
      | (with_reducible refine wp_loadStk rfl (.tmp 1) rfl w.heap.size l H8.out rfl HS.out ?_)
      | (go_at_call 39; refine (HC.out _).mono ?_; rintro e w1 ⟨v, vs, rfl, hown, hb1⟩; obtain ⟨a1, c1, rfl, _, _⟩ := hown.form; rw [← HM.out]; have HB1 := Lib.hid hb1; clear hb1 hown))
    go_ret
    exact ⟨ret_b (by simp; omega), (Below.alloc1 _ _).trans (HB1.out.mono (by simp))⟩

def ok_IsFolding (l : List Int) : Bool := stackB l
def res_IsFolding (l : List Int) : Bool := stackB l && foldB l
def ok_CrossedArcs (l : List Int) : Bool := stackB l
def res_CrossedArcs (l : List Int) : List (List Int) := if stackB l then crossed l else []

set_option maxHeartbeats 1000000 in
theorem impl_IsFolding (l : List Int) (w : World) (u : Value) (h : Rd w u l) (m : l.length ≤ 1048576) : Calls Try.prog 13 #[u] w (GivesD w (res_IsFolding l) (ok_IsFolding l)) := by
  unfold res_IsFolding ok_IsFolding
  cases hg : stackB l with
  | true =>
    have H8 := Lib.hid (stack_len hg)
    have HF := Lib.hid (fun w => isFolding_any l w hg)
    have HG := Lib.hid hg; clear hg
    rw [Bool.true_and]
    go_enter Try.func13, Try.ntmps13
    go_wp2_with fail
    refine (readStack_yes u l _ h HG.out).mono ?_
    rintro e w1 ⟨rfl, hb⟩
    go_wp2_with (first
      | ((with_reducible refine wp_storeNewStk rfl (.tmp 4) (.tmp 9) rfl _ l H8.out rfl rfl ?_); intro w2 hs2 hb2)
      | (with_reducible refine wp_loadStkG (.tmp 4) rfl w1.heap.size l H8.out rfl hs2 (by with_unfolding_all rfl) ?_)
      | (go_at_call 37; refine (HF.out _).mono ?_; rintro e w3 ⟨rfl, hb3⟩))
    go_ret2
    exact ⟨rfl, Below.step (Below.step hb hb2) hb3⟩
  | false =>
    have HG := Lib.hid hg; clear hg
    rw [Bool.false_and]
    go_enter Try.func13, Try.ntmps13
    go_wp2_with fail
    refine (readStack_no u l _ h HG.out).mono ?_
    rintro e w1 ⟨rfl, hb⟩
    go_wp2_with ((with_reducible refine wp_storeNewStk rfl (.tmp 4) (.tmp 9) rfl _ [] (Nat.zero_le _) rfl rfl ?_); intro w2 hs2 hb2)
    go_ret2
    exact ⟨rfl, Below.step hb hb2⟩

set_option maxHeartbeats 1000000 in
theorem crossedJoints_nil (w : World) : Calls Try.prog 39 #[.agg (stkC [])] w (MadeLL w []) := by
  have hlast : (stkC [])[8]? = some (.int .i64 0) := rfl
  go_enter Try.func39, Try.ntmps39
  go_wp2
  go_loop [3, 9] (fun o i => o = .slice none 0 0 ∧ i = .int .i64 0) (fun _ i => 0)
  case atStart => exact ⟨rfl, rfl⟩
  case round =>
    obtain ⟨rfl, rfl⟩ := hrel
    go_wp2
    go_ret
    exact ⟨_, [], rfl, by simpa using (OwnLL.nil w.heap.size (w.alloc (.cells (stkC []) 42)) (by simp)), Below.alloc1 _ _⟩

set_option maxHeartbeats 1000000 in
theorem impl_CrossedArcs (l : List Int) (w : World) (u : Value) (h : Rd w u l) (m : l.length ≤ 1048576) : Calls Try.prog 16 #[u] w (GivesLL w (res_CrossedArcs l) (ok_CrossedArcs l)) := by
  unfold res_CrossedArcs ok_CrossedArcs
  cases hg : stackB l with
  | true =>
    have H8 := Lib.hid (stack_len hg)
    have HF := Lib.hid (fun w => crossedJoints_run l _ w hg rfl)
    have HG := Lib.hid hg; clear hg
    simp only [if_true]
    go_enter Try.func16, Try.ntmps16
    go_wp2_with fail
    refine (readStack_yes u l _ h HG.out).mono ?_
    rintro e w1 ⟨rfl, hb⟩
    go_wp2_with (first
      | ((with_reducible refine wp_storeNewStk rfl (.tmp 4) (.tmp 9) rfl _ l H8.out rfl rfl ?_); intro w2 hs2 hb2)
      | (with_reducible refine wp_loadStk rfl (.tmp 4) rfl w1.heap.size l H8.out rfl hs2 ?_)
      | (go_at_call 39; refine (HF.out _).mono ?_; rintro e w3 ⟨v, vs, rfl, hown, hb3⟩))
    go_ret2
    exact ⟨_, vs, rfl, hown.mono (Below.size (Below.step hb hb2)) (Nat.le_refl _) (Nat.le_refl _), Below.step (Below.step hb hb2) hb3⟩
  | false =>
    have HG := Lib.hid hg; clear hg
    simp only [Bool.false_eq_true, if_false]
    have H8 : Hid (([] : List Int).length ≤ 8) := Nat.zero_le _
    go_enter Try.func16, Try.ntmps16
    go_wp2_with fail
    refine (readStack_no u l _ h HG.out).mono ?_
    rintro e w1 ⟨rfl, hb⟩
    go_wp2_with (first
      | ((with_reducible refine wp_storeNewStk rfl (.tmp 4) (.tmp 9) rfl _ [] (Nat.zero_le _) rfl rfl ?_); intro w2 hs2 hb2)
      | (with_reducible refine wp_loadStk rfl (.tmp 4) rfl w1.heap.size [] H8.out rfl hs2 ?_)
      | (go_at_call 39; refine (crossedJoints_nil _).mono ?_; rintro e w3 ⟨v, vs, rfl, hown, hb3⟩))
    go_ret2
    exact ⟨_, vs, rfl, hown.mono (Below.size (Below.step hb hb2)) (Nat.le_refl _) (Nat.le_refl _), Below.step (Below.step hb hb2) hb3⟩

end Go.Proofs.Ytnkkgbecdckigaa
