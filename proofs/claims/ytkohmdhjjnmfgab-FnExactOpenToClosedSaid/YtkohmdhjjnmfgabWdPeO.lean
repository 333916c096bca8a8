/- The model's peOpen and peClosed; CrossingOf, IsPermutation, IsOpenPermutation in the model. -/
import Derived.Test.YtkohmdhjjnmfgabWdPeC
namespace Go.Proofs.Ytkohmdhjjnmfgab
open Go.RowKit
set_option linter.unusedSimpArgs false
set_option linter.unusedVariables false

set_option maxHeartbeats 1000000 in
theorem peCrossing_nil (v : Value) (w : World) (h : Rd w v []) :
    Calls Try.prog 71 #[v] w (Gives w (fcL (firstCrs [])) (firstCrs []).isSome) := by
  obtain ⟨a, c, rfl, hlc, hcm, hnc, hrd⟩ := h
  clear hlc hcm hnc hrd
  show Calls Try.prog 71 #[.slice a 0 c] w (Gives w [] false)
  go_enter Try.func71, Try.ntmps71
  go_wp2
  go_loopw [4] (fun jv wr => jv = .int .i64 0 ∧ wr = w) (fun jv _ => 0)
  case atStart => exact ⟨rfl, rfl⟩
  case round =>
    obtain ⟨rfl, rfl⟩ := hrel
    go_wp2
    go_ret2
    exact ⟨_, rfl, Own.nil _ _, Below.refl _ _⟩

theorem peCrossing_any (v : Value) (l : List Int) (w : World) (h : Rd w v l) (hl : l.length ≤ 12) :
    Calls Try.prog 71 #[v] w (Gives w (fcL (firstCrs l)) (firstCrs l).isSome) := by
  by_cases h1 : 1 ≤ l.length
  · exact peCrossing_run v l w h hl h1
  · obtain rfl : l = [] := List.length_eq_zero_iff.1 (by omega)
    exact peCrossing_nil v w h

set_option maxHeartbeats 1000000 in
theorem peOpen_any (v : Value) (l : List Int) (w : World) (h : Rd w v l) (hm : l.length ≤ 1048576) :
    Calls Try.prog 48 #[v] w (Tells w (openB l)) := by
  have hpw := fun w h => peWord_any v l w h hm
  have H := Lib.hid h; clear h
  unfold openB
  cases hg : wordB l with
  | false =>
    rw [hg] at hpw
    have HPW := Lib.hid hpw
    clear hpw hg
    rw [Bool.false_and]
    go_enter Try.func48, Try.ntmps48
    go_wp2_with (go_at_call 70; refine (HPW.out _ H.out).mono ?_; rintro e w1 ⟨rfl, rfl⟩)
    go_ret
    exact ⟨rfl, Below.refl _ _⟩
  | true =>
    have hpc := fun w h => peCrossing_any v l w h (word_len hg)
    rw [hg] at hpw
    rw [Bool.true_and]
    have HD : Hid ((firstCrs l).isNone = !(firstCrs l).isSome) := by show _ = _; cases firstCrs l <;> rfl
    rw [HD.out]
    generalize fcL (firstCrs l) = t at hpc
    generalize (firstCrs l).isSome = x at hpc ⊢
    have HPW := Lib.hid hpw; have HPC := Lib.hid hpc
    clear hpw hg hpc HD
    go_enter Try.func48, Try.ntmps48
    go_wp2_with (first
      | (go_at_call 70; refine (HPW.out _ H.out).mono ?_; rintro e w1 ⟨rfl, rfl⟩)
      | (go_at_call 71; refine (HPC.out _ H.out).mono ?_; rintro e w2 ⟨v2, rfl, hown, hb2⟩; obtain ⟨a1, n1, c1, rfl⟩ := Own.form' hown; have HB := Lib.hid hb2; clear hown hb2))
    go_ret
    exact ⟨rfl, HB.out⟩


theorem closed_open {l : List Int} (h : openB l = false) : closedB l = false := by unfold closedB; rw [h]; rfl
theorem closed_no {l : List Int} (h : closesB l = false) : closedB l = false := by unfold closedB; rw [h]; simp
theorem closes_len {l : List Int} (h : ¬ 2 ≤ l.length) : closesB l = false := by unfold closesB; rw [decide_eq_false h]; rfl
theorem closes_odd {l : List Int} (h : ¬ l.length % 2 = 0) : closesB l = false := by unfold closesB; rw [decide_eq_false h]; simp
theorem closes_first {l : List Int} (h : ¬ l.getD 0 0 = 0) : closesB l = false := by unfold closesB; rw [decide_eq_false h]; simp
theorem closes_row {l : List Int} (h1 : 2 ≤ l.length) (h2 : l.length % 2 = 0) (h3 : l.getD 0 0 = 0) : closesB l = clsRow l (l.length + 1) 1 := by unfold closesB; rw [decide_eq_true h1, decide_eq_true h2, decide_eq_true h3]; rfl
theorem open_word {l : List Int} (h : openB l = true) : wordB l = true := by unfold openB at h; simp at h; exact h.1

set_option maxHeartbeats 4000000 in
set_option maxRecDepth 100000 in
theorem peClosed_run (v : Value) (l : List Int) (w : World) (R : Bool) (h : Rd w v l) (ho : openB l = true) (h1 : 2 ≤ l.length) (h2 : l.length % 2 = 0) (h3 : l.getD 0 0 = 0) (hR : clsRow l (l.length + 1) 1 = R) :
    Calls Try.prog 44 #[v] w (Tells w R) := by
  have hl := word_len (open_word ho)
  have hpo := fun w h => peOpen_any v l w h (by omega)
  rw [ho] at hpo
  have h0 := h
  obtain ⟨bb, off, c, rfl, hlc, hcm, hcell⟩ := h.at (by omega)
  have c0 := hcell 0 (by omega)
  rw [h3] at c0
  obtain ⟨n, hn⟩ : ∃ n, n = l.length := ⟨_, rfl⟩
  have hcr : ∀ i, clsRow l (i) 1 = clsRow l i 1 := fun _ => rfl
  rw [← hn] at hlc hl h0 hcell h1 h2 hR hpo ⊢
  unfold maxLen at hcm
  have HN := Lib.hid hn; have HC := Lib.hid hcell; have HPO := Lib.hid hpo; have H0 := Lib.hid h0
  have HF : Hid (clsRow l (n + 1) 1 = R) := hR
  have g1 : ¬ (n : Int) < 2 := by omega
  have g0 : decide ((n : Int) < 2) = false := decide_eq_false g1
  have g2 : ((n : Int) % 2 == 1) = false := by simp; omega
  clear hn hcell h h0 hpo ho hR hcr h3
  go_enter Try.func44, Try.ntmps44
  go_wp2_with (go_at_call 48; refine (HPO.out _ H0.out).mono ?_; rintro e w1 ⟨rfl, hb1⟩; have d0 := (hb1.cell (p := ⟨bb, off, none⟩) (World.block_lt_of_cell? w _ (by simpa using c0))).trans (by simpa using c0))
  go_loopw [4] (fun iv wx => ∃ (i f : Nat), i ≤ n + 1 ∧ n + 1 ≤ i + 2 * f ∧ 1 ≤ i ∧ iv = .int .i64 i ∧ Hid (clsRow l f i = R) ∧ Hid (Below w.heap.size w wx)) (fun iv _ => n + 1 - (intOf iv).toNat)
  case atStart => exact ⟨1, n + 1, by omega, by omega, by omega, rfl, HF, hb1⟩
  case round =>
    obtain ⟨i, f, hi, hf, hi1, rfl, HRI, HBX⟩ := hrel
    clear HF hb1 d0 c0
    have hwi : IntKind.i64.wrap ((i : Int) + 1) = (i : Int) + 1 := IntWalk.i64_in _ (by omega)
    have hwi2 : IntKind.i64.wrap ((i : Int) + 2) = (i : Int) + 2 := IntWalk.i64_in _ (by omega)
    have hwn : IntKind.i64.wrap ((n : Int) - 1) = (n : Int) - 1 := IntWalk.i64_in _ (by omega)
    by_cases hlt : (i : Int) + 1 < (n : Int)
    · have keep : ∀ k, k < n → wr.cell? ⟨bb, off + k, none⟩ = some (.int .i64 (l.getD k 0)) := fun k hk => (HBX.out.cell (p := ⟨bb, off + k, none⟩) (World.block_lt_of_cell? w _ (HC.out k hk))).trans (HC.out k hk)
      have c1 := keep i (by omega)
      have c2 := keep (i + 1) (by omega)
      obtain ⟨q, hq⟩ : ∃ q, q = n - 1 := ⟨_, rfl⟩
      have c3 := keep q (by omega)
      have cr := fun w => peCross_any (l.getD i 0) (l.getD (i + 1) 0) (l.getD q 0) 0 w
      have hcr : crsB (l.getD i 0) (l.getD (i + 1) 0) (l.getD (l.length - 1) 0) 0 = crsB (l.getD i 0) (l.getD (i + 1) 0) (l.getD q 0) 0 := by rw [← HN.out, hq]
      have hqi : (n : Int) - 1 = (q : Int) := by omega
      have hit := clsRow_hit l f i (by rw [← HN.out]; omega) (by rw [← HN.out]; omega)
      have hon := clsRow_on l f i (by rw [← HN.out]; omega) (by rw [← HN.out]; omega)
      rw [hcr] at hit hon
      have b1 : (0 : Int) ≤ (i : Int) := by omega
      have b2 : (i : Int) < (n : Int) := by omega
      have b3 : (0 : Int) ≤ (i : Int) + 1 := by omega
      have b5 : (0 : Int) ≤ (q : Int) := by omega
      have b6 : (q : Int) < (n : Int) := by omega
      have e5 : ((i : Int) + 1).toNat = i + 1 := by omega
      rw [hqi] at hwn
      cases hx : crsB (l.getD i 0) (l.getD (i + 1) 0) (l.getD q 0) 0 with
      | true =>
        have h1 := HRI.out
        rw [hit hx] at h1
        rw [hx] at cr
        have HF : Hid (R = false) := h1.symm
        clear hit hon hcr hx h1 HRI keep
        generalize l.getD i 0 = x1 at c1 cr
        generalize l.getD (i + 1) 0 = x2 at c2 cr
        generalize l.getD q 0 = x3 at c3 cr
        have HCR : Hid (∀ q, Calls Try.prog 66 #[.int .i64 x1, .int .i64 x2, .int .i64 x3, .int .i64 0] (wr.drewN q) fun e w' => e = .returned (.bool true) ∧ w' = wr.drewN q) := fun q => (cr (wr.drewN q)).mono fun _ _ h => ⟨h.1, h.2.symm⟩
        clear cr hq
        go_wp2
        go_quiet ((go_at_call 66; with_reducible exact Calls.quiet_of_same (HCR.out _)))
        go_wp2
        go_ret
        exact ⟨by rw [HF.out]; rfl, below_drewN HBX.out _⟩
      | false =>
        have h1 := HRI.out
        obtain ⟨g, hg, h2⟩ := hon hx
        rw [h2] at h1
        rw [hx] at cr
        have HRI2 := Lib.hid h1
        clear hit hon hcr hx h1 HRI keep h2
        generalize l.getD i 0 = x1 at c1 cr
        generalize l.getD (i + 1) 0 = x2 at c2 cr
        generalize l.getD q 0 = x3 at c3 cr
        have HCR : Hid (∀ q, Calls Try.prog 66 #[.int .i64 x1, .int .i64 x2, .int .i64 x3, .int .i64 0] (wr.drewN q) fun e w' => e = .returned (.bool false) ∧ w' = wr.drewN q) := fun q => (cr (wr.drewN q)).mono fun _ _ h => ⟨h.1, h.2.symm⟩
        clear cr hq
        go_wp2
        go_quiet ((go_at_call 66; with_reducible exact Calls.quiet_of_same (HCR.out _)))
        go_wp2
        go_roundw
        case rel => exact ⟨i + 2, g, by omega, by omega, by omega, by go_num, HRI2, below_drewN HBX.out _⟩
        case measure => simp [intOf]; omega
    · have h1 := HRI.out
      rw [clsRow_no l f i (by rw [← HN.out]; omega)] at h1
      have HF : Hid (R = true) := h1.symm
      clear h1 HRI
      go_wp2
      go_ret
      exact ⟨by rw [HF.out]; rfl, HBX.out⟩

set_option maxHeartbeats 2000000 in
theorem peClosed_no (v : Value) (l : List Int) (w : World) (h : Rd w v l) (hm : l.length ≤ 1048576) (hc : ¬ 2 ≤ l.length ∨ ¬ l.length % 2 = 0 ∨ openB l = false ∨ ¬ l.getD 0 0 = 0) :
    Calls Try.prog 44 #[v] w (Tells w false) := by
  have hpo := fun w h => peOpen_any v l w h hm
  by_cases h1 : 2 ≤ l.length
  · by_cases h2 : l.length % 2 = 0
    · have h0 := h
      obtain ⟨bb, off, c, rfl, hlc, hcm, hcell⟩ := h.at (by omega)
      have c0 := hcell 0 (by omega)
      have hx : openB l = true → ¬ l.getD 0 0 = 0 := by
        intro ho hz
        rcases hc with h | h | h | h
        · exact h h1
        · exact h h2
        · rw [h] at ho; cases ho
        · exact h hz
      generalize l.getD 0 0 = x at c0 hx
      obtain ⟨n, hn⟩ : ∃ n, n = l.length := ⟨_, rfl⟩
      rw [← hn] at hlc h0 h1 h2 hpo hm ⊢
      unfold maxLen at hcm
      have g1 : ¬ (n : Int) < 2 := by omega
      have g0 : decide ((n : Int) < 2) = false := decide_eq_false g1
      have g2 : ((n : Int) % 2 == 1) = false := by simp; omega
      have H0 := Lib.hid h0
      have C0 := Lib.hid c0
      cases ho : openB l with
      | true =>
        have hx' := hx ho
        have g3 : (x != 0) = true := by simp; exact hx'
        rw [ho] at hpo
        have HPO := Lib.hid hpo
        clear hn hcell h h0 hpo ho hx hc
        go_enter Try.func44, Try.ntmps44
        go_wp2_with (go_at_call 48; refine (HPO.out _ H0.out).mono ?_; rintro e w1 ⟨rfl, hb1⟩; have d0 := (hb1.cell (p := ⟨bb, off, none⟩) (World.block_lt_of_cell? w _ (by simpa using C0.out))).trans (by simpa using C0.out))
        all_goals
          go_ret
          exact ⟨rfl, hb1⟩
      | false =>
        rw [ho] at hpo
        have HPO := Lib.hid hpo
        clear hn hcell h h0 hpo ho hx hc
        go_enter Try.func44, Try.ntmps44
        go_wp2_with (go_at_call 48; refine (HPO.out _ H0.out).mono ?_; rintro e w1 ⟨rfl, hb1⟩)
        all_goals
          go_ret
          exact ⟨rfl, hb1⟩
    · obtain ⟨a, c, rfl, hlc, hcm, hnc, hrd⟩ := h
      obtain ⟨n, hn⟩ : ∃ n, n = l.length := ⟨_, rfl⟩
      rw [← hn] at hlc h1 h2 hm ⊢
      unfold maxLen at hcm
      have g1 : ¬ (n : Int) < 2 := by omega
      have g0 : decide ((n : Int) < 2) = false := decide_eq_false g1
      have g2 : ((n : Int) % 2 == 1) = true := by simp; omega
      clear hn hrd hnc hpo hc
      go_enter Try.func44, Try.ntmps44
      go_wp2
      go_ret
      exact ⟨rfl, Below.refl _ _⟩
  · obtain ⟨a, c, rfl, hlc, hcm, hnc, hrd⟩ := h
    obtain ⟨n, hn⟩ : ∃ n, n = l.length := ⟨_, rfl⟩
    rw [← hn] at hlc h1 hm ⊢
    unfold maxLen at hcm
    have g1 : (n : Int) < 2 := by omega
    have g0 : decide ((n : Int) < 2) = true := decide_eq_true g1
    clear hn hrd hnc hpo hc
    go_enter Try.func44, Try.ntmps44
    go_wp2
    go_ret
    exact ⟨rfl, Below.refl _ _⟩

theorem peClosed_any (v : Value) (l : List Int) (w : World) (h : Rd w v l) (hm : l.length ≤ 1048576) :
    Calls Try.prog 44 #[v] w (Tells w (closedB l)) := by
  by_cases h1 : 2 ≤ l.length
  · by_cases h2 : l.length % 2 = 0
    · by_cases h3 : l.getD 0 0 = 0
      · cases ho : openB l with
        | true =>
          have : closedB l = clsRow l (l.length + 1) 1 := by unfold closedB; rw [ho, closes_row h1 h2 h3]; rfl
          rw [this]
          exact peClosed_run v l w _ h ho h1 h2 h3 rfl
        | false => rw [closed_open ho]; exact peClosed_no v l w h hm (.inr (.inr (.inl ho)))
      · rw [closed_no (closes_first h3)]; exact peClosed_no v l w h hm (.inr (.inr (.inr h3)))
    · rw [closed_no (closes_odd h2)]; exact peClosed_no v l w h hm (.inr (.inl h2))
  · rw [closed_no (closes_len h1)]; exact peClosed_no v l w h hm (.inl h1)

theorem closed_len {l : List Int} (h : closedB l = true) : l.length ≤ 12 := by unfold closedB at h; simp only [Bool.and_eq_true] at h; exact word_len (open_word h.1)



end Go.Proofs.Ytkohmdhjjnmfgab
