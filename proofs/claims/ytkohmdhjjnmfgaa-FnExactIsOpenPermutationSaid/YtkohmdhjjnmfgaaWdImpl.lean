/- IsPermutation, IsOpenPermutation, CrossingOf and PositionsOf in the program. -/
import Derived.Test.YtkohmdhjjnmfgaaWdOpen
import Derived.Test.YtkohmdhjjnmfgaaWdRow
import Derived.Test.YtkohmdhjjnmfgaaWdV
namespace Go.Proofs.Ytkohmdhjjnmfgaa
open Go.RowKit
set_option linter.unusedSimpArgs false
set_option linter.unusedVariables false

theorem closed_word {l : List Int} (h : wordB l = true) : closedB l = ((firstCrs l).isNone && closesB l) := by unfold closedB openB; rw [h]; rfl
theorem open_word' {l : List Int} (h : wordB l = true) : openB l = (firstCrs l).isNone := by unfold openB; rw [h]; rfl
theorem closed_nword {l : List Int} (h : wordB l = false) : closedB l = false := by unfold closedB openB; rw [h]; rfl
theorem open_nword {l : List Int} (h : wordB l = false) : openB l = false := by unfold openB; rw [h]; rfl

set_option maxHeartbeats 2000000 in
theorem isWordWith_isClosed (l : List Int) (w : World) (u : Value) (h : Rd w u l) (m : l.length ≤ 1048576) :
    Calls Try.prog 29 #[u, .func (.methodOf 38 "loop.example/g01126/impl.isClosed") #[] #[]] w (GivesD w (closedB l) (decide (l.length ≤ 12))) := by
  have hrw := readWord_any u l w h
  obtain ⟨a, c, rfl, hlc, hcm, hnc, hrd⟩ := h
  unfold maxLen at hcm
  clear hrd hnc
  cases hg : wordB l with
  | true =>
    have hl := word_len hg
    have hc := fun w => isClosed_any l w hl
    rw [closed_word hg, decide_eq_true hl]
    rw [hg, selL_yes] at hrw
    have HI : Hid ((selI true l).length = 12) := idxW_length l
    generalize selI true l = b at hrw HI
    generalize ((firstCrs l).isNone && closesB l) = R at hc ⊢
    obtain ⟨n, hn⟩ : ∃ n, n = l.length := ⟨_, rfl⟩
    have HL := Lib.hid hl
    rw [← hn] at hlc hrw m hl ⊢
    have HR := Lib.hid hrw; have HC := Lib.hid hc
    have g1 : (n : Int) ≤ 12 := by omega
    clear hrw hc hg hn hl
    go_enter Try.func29, Try.ntmps29
    go_wp2_with fail
    refine HR.out.mono ?_
    rintro e w1 ⟨rfl, hb1⟩
    go_wp2_with (first
      | ((with_reducible refine wp_storeNewWd rfl (.tmp 6) (.tmp 11) rfl w1 l b HL.out HI.out rfl rfl ?_); intro w2 hs2 hb2; have HW2 := Lib.hid hs2; have HB2 := Lib.hid (Below.step hb1 hb2); clear hs2)
      | (with_reducible refine wp_loadWdG (.tmp 6) rfl w1.heap.size l b HL.out HI.out rfl HW2.out (by with_unfolding_all rfl) ?_)
      | (rw [metcall_isClosed HL.out HI.out, Oper.upon_enter])
      | (go_at_call 30; refine (HC.out _).mono ?_; rintro e w3 ⟨rfl, hb3⟩))
    go_ret2
    exact ⟨rfl, Below.step HB2.out hb3⟩
  | false =>
    rw [closed_nword hg]
    rw [hg, selL_no, selI_no] at hrw
    have hd : decide (((l.length : Nat) : Int) ≤ 12) = decide (l.length ≤ 12) := by by_cases h : l.length ≤ 12 <;> simp [h] <;> omega
    obtain ⟨n, hn⟩ : ∃ n, n = l.length := ⟨_, rfl⟩
    rw [← hn] at hlc hrw m hd ⊢
    generalize decide (n ≤ 12) = ok at hd ⊢
    have HR := Lib.hid hrw; have HD := Lib.hid hd
    have HI := Lib.hid zero12_length
    clear hrw hg hn hd
    go_enter Try.func29, Try.ntmps29
    go_wp2_with fail
    refine HR.out.mono ?_
    rintro e w1 ⟨rfl, hb1⟩
    go_wp2_with ((with_reducible refine wp_storeNewWd rfl (.tmp 6) (.tmp 11) rfl w1 [] zero12 (Nat.zero_le _) HI.out rfl rfl ?_); intro w2 hs2 hb2; have HB2 := Lib.hid (Below.step hb1 hb2); clear hs2)
    all_goals
      go_ret2
      exact ⟨by rw [← HD.out]; rfl, HB2.out⟩

set_option maxHeartbeats 1000000 in
theorem impl_IsPermutation (l : List Int) (w : World) (u : Value) (h : Rd w u l) (m : l.length ≤ 1048576) : Calls Try.prog 12 #[u] w (GivesD w (res_IsPermutation l) (ok_IsPermutation l)) := by
  have hw := isWordWith_isClosed l w u h m
  unfold res_IsPermutation ok_IsPermutation
  generalize closedB l = x at hw ⊢
  generalize decide (l.length ≤ 12) = y at hw ⊢
  have HW := Lib.hid hw
  clear hw h m
  go_enter Try.func12, Try.ntmps12
  go_wp2_with fail
  refine HW.out.mono ?_
  rintro e w1 ⟨rfl, hb1⟩
  go_wp2
  go_ret2
  exact ⟨rfl, hb1⟩

set_option maxHeartbeats 2000000 in
theorem isWordWith_isOpen (l : List Int) (w : World) (u : Value) (h : Rd w u l) (m : l.length ≤ 1048576) :
    Calls Try.prog 29 #[u, .func (.methodOf 38 "loop.example/g01126/impl.isOpen") #[] #[]] w (GivesD w (openB l) (decide (l.length ≤ 12))) := by
  have hrw := readWord_any u l w h
  obtain ⟨a, c, rfl, hlc, hcm, hnc, hrd⟩ := h
  unfold maxLen at hcm
  clear hrd hnc
  cases hg : wordB l with
  | true =>
    have hl := word_len hg
    have hc := fun w => isOpen_any l w hl
    rw [open_word' hg, decide_eq_true hl]
    rw [hg, selL_yes] at hrw
    have HI : Hid ((selI true l).length = 12) := idxW_length l
    generalize selI true l = b at hrw HI
    generalize (firstCrs l).isNone = R at hc ⊢
    obtain ⟨n, hn⟩ : ∃ n, n = l.length := ⟨_, rfl⟩
    have HL := Lib.hid hl
    rw [← hn] at hlc hrw m hl ⊢
    have HR := Lib.hid hrw; have HC := Lib.hid hc
    have g1 : (n : Int) ≤ 12 := by omega
    clear hrw hc hg hn hl
    go_enter Try.func29, Try.ntmps29
    go_wp2_with fail
    refine HR.out.mono ?_
    rintro e w1 ⟨rfl, hb1⟩
    go_wp2_with (first
      | ((with_reducible refine wp_storeNewWd rfl (.tmp 6) (.tmp 11) rfl w1 l b HL.out HI.out rfl rfl ?_); intro w2 hs2 hb2; have HW2 := Lib.hid hs2; have HB2 := Lib.hid (Below.step hb1 hb2); clear hs2)
      | (with_reducible refine wp_loadWdG (.tmp 6) rfl w1.heap.size l b HL.out HI.out rfl HW2.out (by with_unfolding_all rfl) ?_)
      | (rw [metcall_isOpen HL.out HI.out, Oper.upon_enter])
      | (go_at_call 32; refine (HC.out _).mono ?_; rintro e w3 ⟨rfl, hb3⟩))
    go_ret2
    exact ⟨rfl, Below.step HB2.out hb3⟩
  | false =>
    rw [open_nword hg]
    rw [hg, selL_no, selI_no] at hrw
    have hd : decide (((l.length : Nat) : Int) ≤ 12) = decide (l.length ≤ 12) := by by_cases h : l.length ≤ 12 <;> simp [h] <;> omega
    obtain ⟨n, hn⟩ : ∃ n, n = l.length := ⟨_, rfl⟩
    rw [← hn] at hlc hrw m hd ⊢
    generalize decide (n ≤ 12) = ok at hd ⊢
    have HR := Lib.hid hrw; have HD := Lib.hid hd
    have HI := Lib.hid zero12_length
    clear hrw hg hn hd
    go_enter Try.func29, Try.ntmps29
    go_wp2_with fail
    refine HR.out.mono ?_
    rintro e w1 ⟨rfl, hb1⟩
    go_wp2_with ((with_reducible refine wp_storeNewWd rfl (.tmp 6) (.tmp 11) rfl w1 [] zero12 (Nat.zero_le _) HI.out rfl rfl ?_); intro w2 hs2 hb2; have HB2 := Lib.hid (Below.step hb1 hb2); clear hs2)
    all_goals
      go_ret2
      exact ⟨by rw [← HD.out]; rfl, HB2.out⟩

set_option maxHeartbeats 1000000 in
theorem impl_IsOpenPermutation (l : List Int) (w : World) (u : Value) (h : Rd w u l) (m : l.length ≤ 1048576) : Calls Try.prog 15 #[u] w (GivesD w (res_IsOpenPermutation l) (ok_IsOpenPermutation l)) := by
  have hw := isWordWith_isOpen l w u h m
  unfold res_IsOpenPermutation ok_IsOpenPermutation
  generalize openB l = x at hw ⊢
  generalize decide (l.length ≤ 12) = y at hw ⊢
  have HW := Lib.hid hw
  clear hw h m
  go_enter Try.func15, Try.ntmps15
  go_wp2_with fail
  refine HW.out.mono ?_
  rintro e w1 ⟨rfl, hb1⟩
  go_wp2
  go_ret2
  exact ⟨rfl, hb1⟩

set_option maxHeartbeats 2000000 in
theorem impl_CrossingOf (l : List Int) (w : World) (u : Value) (h : Rd w u l) (m : l.length ≤ 1048576) : Calls Try.prog 17 #[u] w (Gives w (res_CrossingOf l) (ok_CrossingOf l)) := by
  have hrw := readWord_any u l w h
  unfold res_CrossingOf ok_CrossingOf
  cases hg : wordB l with
  | true =>
    have hl := word_len hg
    have hf := fun w => firstCrossing_any l w hl
    rw [hg, selL_yes] at hrw
    have HI : Hid ((selI true l).length = 12) := idxW_length l
    generalize selI true l = b at hrw HI
    have hij : ∀ i j, firstCrs l = some (i, j) → (i : Int) ≤ 100 ∧ (j : Int) ≤ 100 := fun i j e => by have := firstCrs_lt l e; have := hl; omega
    rw [Bool.true_and]
    simp only [if_true]
    have HL := Lib.hid hl; have HR := Lib.hid hrw
    cases hF : firstCrs l with
    | none =>
      rw [hF] at hf
      have HF := Lib.hid hf
      clear hf hF hg hl hrw hij
      show Calls Try.prog 17 #[u] w (Gives w [] false)
      go_enter Try.func17, Try.ntmps17
      go_wp2_with fail
      refine HR.out.mono ?_
      rintro e w1 ⟨rfl, hb1⟩
      go_wp2_with (first
        | ((with_reducible refine wp_storeNewWd rfl (.tmp 4) (.tmp 12) rfl w1 l b HL.out HI.out rfl rfl ?_); intro w2 hs2 hb2; have HW2 := Lib.hid hs2; have HB2 := Lib.hid (Below.step hb1 hb2); clear hs2)
        | (with_reducible refine wp_loadPtW rfl (.tmp 15) rfl w1.heap.size l b HL.out rfl HW2.out ?_)
        | (go_at_call 36; refine (HF.out _).mono ?_; rintro e w3 ⟨rfl, hb3⟩; simp only [fcV]))
      go_ret2
      exact ⟨_, rfl, Own.nil _ _, Below.step HB2.out hb3⟩
    | some p =>
      obtain ⟨i, j⟩ := p
      rw [hF] at hf
      have hij' := hij i j hF
      have hw1 : IntKind.i64.wrap ((i : Int) + 1) = (i : Int) + 1 := IntWalk.i64_in _ (by omega)
      have hw2 : IntKind.i64.wrap ((j : Int) + 1) = (j : Int) + 1 := IntWalk.i64_in _ (by omega)
      have HF := Lib.hid hf
      clear hf hF hg hl hrw hij hij'
      show Calls Try.prog 17 #[u] w (Gives w [(i : Int), (i : Int) + 1, (j : Int), (j : Int) + 1] true)
      go_enter Try.func17, Try.ntmps17
      go_wp2_with fail
      refine HR.out.mono ?_
      rintro e w1 ⟨rfl, hb1⟩
      go_wp2_with (first
        | ((with_reducible refine wp_storeNewWd rfl (.tmp 4) (.tmp 12) rfl w1 l b HL.out HI.out rfl rfl ?_); intro w2 hs2 hb2; have HW2 := Lib.hid hs2; have HB2 := Lib.hid (Below.step hb1 hb2); clear hs2)
        | (with_reducible refine wp_loadPtW rfl (.tmp 15) rfl w1.heap.size l b HL.out rfl HW2.out ?_)
        | (go_at_call 36; refine (HF.out _).mono ?_; rintro e w3 ⟨rfl, hb3⟩; simp only [fcV]))
      go_ret2
      have B3 := Below.step HB2.out hb3
      exact ⟨_, rfl, Own.lit4 _ _ _ _ _ _ B3.size, B3.alloc B3.size _⟩
  | false =>
    have hf := fun w => firstCrossing_any [] w (Nat.zero_le _)
    have he : firstCrs [] = none := rfl
    rw [he] at hf
    rw [hg, selL_no, selI_no] at hrw
    have HR := Lib.hid hrw; have HF := Lib.hid hf
    have HI := Lib.hid zero12_length
    have HL : Hid (([] : List Int).length ≤ 12) := Nat.zero_le _
    clear hf he hg hrw
    show Calls Try.prog 17 #[u] w (Gives w [] false)
    go_enter Try.func17, Try.ntmps17
    go_wp2_with fail
    refine HR.out.mono ?_
    rintro e w1 ⟨rfl, hb1⟩
    go_wp2_with (first
      | ((with_reducible refine wp_storeNewWd rfl (.tmp 4) (.tmp 12) rfl w1 [] zero12 HL.out HI.out rfl rfl ?_); intro w2 hs2 hb2; have HW2 := Lib.hid hs2; have HB2 := Lib.hid (Below.step hb1 hb2); clear hs2)
      | (with_reducible refine wp_loadPtW rfl (.tmp 15) rfl w1.heap.size [] zero12 HL.out rfl HW2.out ?_)
      | (go_at_call 36; refine (HF.out _).mono ?_; rintro e w3 ⟨rfl, hb3⟩; simp only [fcV]))
    go_ret2
    exact ⟨_, rfl, Own.nil _ _, Below.step HB2.out hb3⟩

end Go.Proofs.Ytkohmdhjjnmfgaa
