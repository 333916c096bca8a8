/- The model's lists of joints that cross: spCrossed, spIs; IsFolding and CrossedArcs. -/
import Derived.Test.YtnkkgbecdckigaaSpCross
namespace Go.Proofs.Ytnkkgbecdckigaa
open Go.RowKit
set_option linter.unusedSimpArgs false
set_option linter.unusedVariables false

theorem spCross_tells (v : Value) (l : List Int) (i j : Nat) (w : World) (hrd : Rd w v (plL l)) (hs : stackB l = true) (hij : i < j) (hj : j + 1 < l.length) :
    Calls Try.prog 61 #[v, .int .i64 (i : Int), .int .i64 (j : Int)] w (Tells w (crossB l i j)) :=
  (spCross_any v l i j w hrd hs hij hj).mono fun e w' ⟨he, q, hq⟩ => ⟨he, by rw [hq]; exact below_drewN (Below.refl _ _) q⟩

set_option maxHeartbeats 4000000 in
set_option maxRecDepth 100000 in
theorem spCrossed_run (v : Value) (l : List Int) (R : List (List Int)) (w : World) (h : Rd w v l) (hs : stackB l = true) (hR : crossed l = R) :
    Calls Try.prog 38 #[v] w (MadeLL w R) := by
  have h8 := stack_len hs
  have h1 := (stack_facts hs).1
  have hlen : R.length ≤ 64 := by rw [← hR]; exact crossed_len l h8
  unfold crossed at hR
  obtain ⟨m, hm⟩ : ∃ m, m + 1 = l.length := ⟨l.length - 1, by omega⟩
  have hJ := fun (u : Value) (i j : Nat) (w : World) (hu : Rd w u (plL l)) (h1 : i < j) (h2 : j < m) => spCross_tells u l i j w hu hs h1 (by omega)
  have hF : ∀ P k, k < m → P ++ crossFrom l k (m - k) = R → (P ++ crossRow l k (k + 1) (m - (k + 1))) ++ crossFrom l (k + 1) (m - (k + 1)) = R := by
    intro P k hk h
    have e : m - k = (m - (k + 1)) + 1 := by omega
    rw [e] at h
    have := crossFrom_step (P := R) h
    rw [show l.length - 1 - (k + 1) = m - (k + 1) by omega] at this
    exact this
  have hPl := Lib.hid (spPlaces_any v l w h hs)
  rw [show l.length - 1 = m by omega] at hR
  obtain ⟨b, off, c, rfl, hlc, hcm, hcell⟩ := h.at (by omega)
  rw [← hm] at hlc hPl ⊢
  unfold maxLen at hcm
  have HJ := Lib.hid hJ; have HF := Lib.hid hF; have HR := Lib.hid hR
  have HLR := Lib.hid hlen; have HM := Lib.hid hm
  have hm8 : m ≤ 7 := by omega
  clear hJ hF h8 hR hs hm h1 hlen h hcell
  go_enter Try.func38, Try.ntmps38
  go_wp2_with (go_at_call 60; refine hPl.out.mono ?_; rintro e w1 ⟨u, rfl, hown1, hb1⟩; obtain ⟨a1, n1, c1, rfl⟩ := hown1.form'; have H1 := Lib.hid (Own.rd hown1); have HB1 := Lib.hid hb1; clear hb1 hown1)
  go_loopw [4, 5] (fun o i wr => ∃ (k : Nat) (vs : List Value) (P : List (List Int)), k ≤ m ∧ i = .int .i64 k ∧ Hid (P ++ crossFrom l k (m - k) = R) ∧ OwnLL w1.heap.size wr.heap.size wr o vs P ∧ Below w1.heap.size w1 wr) (fun _ i _ => m - (intOf i).toNat)
  case atStart => exact ⟨0, [], [], by omega, rfl, HR, OwnLL.nil w1.heap.size w1 (Nat.le_refl _), Below.refl _ _⟩
  case round =>
    obtain ⟨k, vs, P, hk, rfl, HP, hown, hbel⟩ := hrel
    clear HR
    by_cases hlt : k < m
    · have HQ := Lib.hid (HF.out P k hlt HP.out)
      clear HP
      go_wp2
      go_loopw [4, 6] (fun o i wr => ∃ (q : Nat) (vs : List Value) (P : List (List Int)), k + 1 ≤ q ∧ q ≤ m ∧ i = .int .i64 q ∧ Hid ((P ++ crossRow l k q (m - q)) ++ crossFrom l (k + 1) (m - (k + 1)) = R) ∧ OwnLL w1.heap.size wr.heap.size wr o vs P ∧ Below w1.heap.size w1 wr) (fun _ i _ => m - (intOf i).toNat)
      case atStart => exact ⟨k + 1, vs, P, by omega, by omega, by go_num, HQ, hown, hbel⟩
      case round =>
        clear hown hbel HQ
        obtain ⟨q, vs, P, hq1, hq2, rfl, HQ, hown, hbel⟩ := hrel
        by_cases hlq : q < m
        · have hPl : P.length ≤ 64 := by
            have := congrArg List.length HQ.out
            simp only [List.length_append] at this
            have := HLR.out
            omega
          have HPL := Lib.hid hPl; clear hPl
          have hQ := HQ.out
          rw [show m - q = (m - (q + 1)) + 1 by omega] at hQ
          have HO := Lib.hid hown; have HB := Lib.hid hbel
          have hRd := H1.out.below hbel
          clear hown hbel HQ
          cases hc : crossB l k q with
          | true =>
            have HQ := Lib.hid (row_yes (P := P) hQ hc); clear hQ
            have hj := HJ.out _ k q wr hRd (by omega) hlq
            rw [hc] at hj
            have HC := Lib.hid hj; clear hj hc hRd
            go_wp2_with (first
              | (go_at_call 61; ((with_reducible refine HC.out.mono ?_); rintro e w2 ⟨rfl, hb2⟩; have HB2 := Lib.hid hb2; clear hb2))
              | (at_builtin; refine wp_appendLL _ rfl (.tmp 29) (.tmp 33) rfl w1.heap.size wr.heap.size w2.heap.size (w2.heap.size + 1) _ (.slice (some ⟨w2.heap.size, 0, none⟩) 2 2) vs P [(k : Int), (q : Int)] rfl rfl (cell_lit2 _ _ _ _) (OwnLL.below HO.out ((HB2.out.alloc HB2.out.size _).alloc (by have := HB2.out.size; simp; omega) _)) (Own.below (Own.lit2 _ _ _ _ (Nat.le_refl _)) (Below.alloc1 _ _)) HB2.out.size (by have := HB2.out.size; have := HB.out.size; omega) (by have := HPL.out; omega) (by have := HB2.out.size; have := HB.out.size; simp; omega) ?_; intro v' w3 hown3 hgr3 hbel3 _; have HO3 := Lib.hid hown3; have HG3 := Lib.hid hgr3; have HB3 := Lib.hid hbel3; clear hown3 hgr3 hbel3))
            go_roundw
            case rel =>
              have s1 := HB2.out.size
              have s0 := HB.out.size
              have bb : Below w1.heap.size w1 ((w2.alloc (.cells #[.int .i64 (k : Int), .int .i64 (q : Int)] 3)).alloc (.cells #[.slice (some ⟨w2.heap.size, 0, none⟩) 2 2] 22)) := ((below_next HB.out HB2.out HB.out.size).alloc (by omega) _).alloc (by simp; omega) _
              exact ⟨q + 1, _, _, by omega, by omega, by go_num, HQ, HO3.out, bb.trans HB3.out⟩
            case measure => simp [intOf]; omega
          | false =>
            have HQ := Lib.hid (row_no (P := P) hQ hc); clear hQ
            have hj := HJ.out _ k q wr hRd (by omega) hlq
            rw [hc] at hj
            have HC := Lib.hid hj; clear hj hc hRd
            go_wp2_with (go_at_call 61; ((with_reducible refine HC.out.mono ?_); rintro e w2 ⟨rfl, hb2⟩; have HB2 := Lib.hid hb2; clear hb2))
            go_roundw
            case rel => exact ⟨q + 1, vs, P, by omega, by omega, by go_num, HQ, (HO.out.below HB2.out).mono (Nat.le_refl _) HB2.out.size (Nat.le_refl _), below_next HB.out HB2.out HB.out.size⟩
            case measure => simp [intOf]; omega
        · obtain rfl : q = m := by omega
          have hQ := HQ.out
          rw [Nat.sub_self] at hQ
          simp only [crossRow, List.append_nil] at hQ
          have HQ2 := Lib.hid hQ; clear hQ HQ
          go_wp2
          go_roundw
          case rel => exact ⟨k + 1, vs, P, by omega, by go_num, HQ2, hown, hbel⟩
          case measure => simp [intOf]; omega
    · obtain rfl : k = m := by omega
      have hR := HP.out
      rw [Nat.sub_self] at hR
      simp only [crossFrom, List.append_nil] at hR
      have HR := Lib.hid hR
      clear hR HP
      go_wp2
      go_ret
      rw [← HR.out]
      exact ⟨_, vs, rfl, hown.mono HB1.out.size (Nat.le_refl _) (Nat.le_refl _), HB1.out.trans (hbel.mono HB1.out.size)⟩

set_option maxHeartbeats 1000000 in
theorem spIs_any (v : Value) (l : List Int) (w : World) (h : Rd w v l) (hs : stackB l = true) :
    Calls Try.prog 35 #[v] w (Tells w (foldB l)) := by
  have HC := Lib.hid (spCrossed_run v l _ w h hs rfl)
  have hl := crossed_len l (stack_len hs)
  unfold foldB
  obtain ⟨m, hm⟩ : ∃ m, m = (crossed l).length := ⟨_, rfl⟩
  rw [← hm] at hl ⊢
  have HM := Lib.hid hm
  clear hs hm h
  by_cases h0 : m = 0
  · have HD : Hid (decide (m = 0) = true) := decide_eq_true h0
    rw [HD.out]
    go_enter Try.func35, Try.ntmps35
    go_wp2_with (go_at_call 38; refine HC.out.mono ?_; rintro e w1 ⟨v, vs, rfl, hown, hb1⟩; obtain ⟨a1, c1, rfl, _, _⟩ := hown.form; rw [← HM.out]; have HB1 := Lib.hid hb1; clear hb1 hown)
    go_ret
    exact ⟨rfl, HB1.out⟩
  · have HD : Hid (decide (m = 0) = false) := decide_eq_false h0
    rw [HD.out]
    go_enter Try.func35, Try.ntmps35
    go_wp2_with (go_at_call 38; refine HC.out.mono ?_; rintro e w1 ⟨v, vs, rfl, hown, hb1⟩; obtain ⟨a1, c1, rfl, _, _⟩ := hown.form; rw [← HM.out]; have HB1 := Lib.hid hb1; clear hb1 hown)
    go_ret
    exact ⟨ret_b (by simp; omega), HB1.out⟩

set_option maxHeartbeats 1000000 in
theorem spec_IsFolding (l : List Int) (w : World) (u : Value) (h : Rd w u l) (m : l.length ≤ 1048576) : Calls Try.prog 11 #[u] w (GivesD w (res_IsFolding l) (ok_IsFolding l)) := by
  unfold res_IsFolding ok_IsFolding
  have HP := Lib.hid (spStack_any u l w h)
  cases hg : stackB l with
  | true =>
    rw [hg] at HP
    have HF := Lib.hid (spIs_any u l w h hg)
    clear hg h
    rw [Bool.true_and]
    go_enter Try.func11, Try.ntmps11
    go_wp2_with (first
      | (go_at_call 34; refine HP.out.mono ?_; rintro e w1 ⟨rfl, rfl⟩)
      | (go_at_call 35; refine HF.out.mono ?_; rintro e w1 ⟨rfl, hb⟩))
    go_ret2
    exact ⟨rfl, hb⟩
  | false =>
    rw [hg] at HP
    clear hg h
    rw [Bool.false_and]
    go_enter Try.func11, Try.ntmps11
    go_wp2_with (go_at_call 34; refine HP.out.mono ?_; rintro e w1 ⟨rfl, rfl⟩)
    go_ret2
    exact ⟨rfl, Below.refl _ _⟩

set_option maxHeartbeats 1000000 in
theorem spec_CrossedArcs (l : List Int) (w : World) (u : Value) (h : Rd w u l) (m : l.length ≤ 1048576) : Calls Try.prog 15 #[u] w (GivesLL w (res_CrossedArcs l) (ok_CrossedArcs l)) := by
  unfold res_CrossedArcs ok_CrossedArcs
  have HP := Lib.hid (spStack_any u l w h)
  cases hg : stackB l with
  | true =>
    rw [hg] at HP
    have HF := Lib.hid (spCrossed_run u l _ w h hg rfl)
    clear hg h
    simp only [if_true]
    go_enter Try.func15, Try.ntmps15
    go_wp2_with (first
      | (go_at_call 34; refine HP.out.mono ?_; rintro e w1 ⟨rfl, rfl⟩)
      | (go_at_call 38; refine HF.out.mono ?_; rintro e w1 ⟨v, vs, rfl, hown, hb⟩))
    go_ret2
    exact ⟨_, vs, rfl, hown, hb⟩
  | false =>
    rw [hg] at HP
    clear hg h
    simp only [Bool.false_eq_true, if_false]
    go_enter Try.func15, Try.ntmps15
    go_wp2_with (go_at_call 34; refine HP.out.mono ?_; rintro e w1 ⟨rfl, rfl⟩)
    go_ret2
    exact ⟨_, [], rfl, OwnLL.nil _ _ (Nat.le_refl _), Below.refl _ _⟩

theorem crossRow_width (l : List Int) (i : Nat) : ∀ (f j : Nat), ∀ r ∈ crossRow l i j f, r.length = 2
  | 0, _, r, h => by simp [crossRow] at h
  | f + 1, j, r, h => by
    simp only [crossRow, List.mem_append] at h
    rcases h with h | h
    · split at h
      · simp at h; rw [h]; rfl
      · simp at h
    · exact crossRow_width l i f (j + 1) r h
theorem crossFrom_width (l : List Int) : ∀ (f i : Nat), ∀ r ∈ crossFrom l i f, r.length = 2
  | 0, _, r, h => by simp [crossFrom] at h
  | f + 1, i, r, h => by
    simp only [crossFrom, List.mem_append] at h
    rcases h with h | h
    · exact crossRow_width l i _ _ r h
    · exact crossFrom_width l f (i + 1) r h

theorem len_rows (ls : List (List Int)) (h1 : ls.length ≤ 2000) (h2 : ∀ r ∈ ls, r.length ≤ 100) : tot ls ≤ 1000000 ∧ ∀ i, i < ls.length → (ls.getD i []).length ≤ 1000000 := by
  have h3 : ∀ i, i < ls.length → (ls.getD i []).length ≤ 100 := by
    intro i hi
    rw [show ls.getD i [] = ls[i] by simp [List.getD, hi]]
    exact h2 _ (List.getElem_mem hi)
  refine ⟨?_, fun i hi => Nat.le_trans (h3 i hi) (by omega)⟩
  have := tot_le h3
  omega
theorem len_CrossedArcs (l : List Int) : tot (res_CrossedArcs l) ≤ 1000000 ∧ ∀ i, i < (res_CrossedArcs l).length → ((res_CrossedArcs l).getD i []).length ≤ 1000000 := by
  unfold res_CrossedArcs
  split
  · next h => exact len_rows _ (by have := crossed_len l (stack_len h); omega) (fun r hr => by have := crossFrom_width l _ _ r hr; omega)
  · exact len_rows _ (by simp) (by simp)

end Go.Proofs.Ytnkkgbecdckigaa
