/- Open words and closed ones, in the program. -/
import Derived.Test.YtkohmdhjjnmfgabWdFirst
import Derived.Test.YtkohmdhjjnmfgabWdPeO
namespace Go.Proofs.Ytkohmdhjjnmfgab
open Go.RowKit
set_option linter.unusedSimpArgs false
set_option linter.unusedVariables false

set_option maxHeartbeats 1000000 in
theorem isOpen_any (l : List Int) (w : World) (hl : l.length ≤ 12) :
    Calls Try.prog 73 #[.agg (ptC l)] w (Tells w (firstCrs l).isNone) := by
  have hpt : PtIn (w.alloc (.cells (ptC l) 51)) w.heap.size l := heap_alloc_new w _
  have hf := fun w => firstCrossing_any l w hl
  have HL := Lib.hid hl; have HPT := Lib.hid hpt
  cases hF : firstCrs l with
  | none =>
    rw [hF] at hf
    have HFC := Lib.hid hf
    clear hf hF hpt hl
    go_enter Try.func73, Try.ntmps73
    go_wp2_with (first
      | (with_reducible refine wp_loadPt rfl (.tmp 1) rfl w.heap.size l HL.out rfl HPT.out ?_)
      | (go_at_call 89; refine (HFC.out _).mono ?_; rintro e w1 ⟨rfl, hb1⟩; simp only [fcV]))
    go_ret
    exact ⟨rfl, Below.step (Below.alloc1 _ _) hb1⟩
  | some p =>
    obtain ⟨i, j⟩ := p
    rw [hF] at hf
    have HFC := Lib.hid hf
    clear hf hF hpt hl
    go_enter Try.func73, Try.ntmps73
    go_wp2_with (first
      | (with_reducible refine wp_loadPt rfl (.tmp 1) rfl w.heap.size l HL.out rfl HPT.out ?_)
      | (go_at_call 89; refine (HFC.out _).mono ?_; rintro e w1 ⟨rfl, hb1⟩; simp only [fcV]))
    go_ret
    exact ⟨rfl, Below.step (Below.alloc1 _ _) hb1⟩

set_option maxHeartbeats 4000000 in
set_option maxRecDepth 100000 in
theorem closes_run (l : List Int) (w : World) (R : Bool) (hl : l.length ≤ 12) (h1 : 2 ≤ l.length) (h2 : l.length % 2 = 0) (h3 : l.getD 0 0 = 0) (hR : clsRow l (l.length + 1) 1 = R) :
    Calls Try.prog 74 #[.agg (ptC l)] w (Tells w R) := by
  have hpt : PtIn (w.alloc (.cells (ptC l) 51)) w.heap.size l := heap_alloc_new w _
  have hsz := hpt.size hl
  have c0 := hpt.cell hl 0 (by omega)
  rw [h3] at c0
  have hJ := fun i w h => join_pts l i w hl h
  rw [ptC_lit hl] at hJ
  obtain ⟨q, hq⟩ : ∃ q, q = l.length - 1 := ⟨_, rfl⟩
  have hja : ∀ i, i + 1 < l.length → jnA l i = l.getD i 0 ∧ jnB l i = l.getD (i + 1) 0 := fun i hi => ⟨rfl, by unfold jnB; rw [Nat.mod_eq_of_lt hi]⟩
  have hjq : jnA l q = l.getD q 0 ∧ jnB l q = 0 := ⟨rfl, by unfold jnB; rw [hq, show l.length - 1 + 1 = l.length by omega, Nat.mod_self, h3]⟩
  obtain ⟨n, hn⟩ : ∃ n, n = l.length := ⟨_, rfl⟩
  have hv : ptV l 12 = .int .i64 (n : Int) := by rw [hn]; rfl
  rw [hv] at hJ
  have hrow := clsRow_hit l
  have hrow2 := clsRow_on l
  rw [← hn] at hl hsz hJ h1 h2 hR hq hja hrow hrow2
  rw [← hq] at hrow hrow2
  have HN := Lib.hid hn; have HV := Lib.hid hv; have HJ := Lib.hid hJ; have HF : Hid (clsRow l (n + 1) 1 = R) := hR
  have HL : Hid (l.length ≤ 12) := by rw [← hn]; exact hl
  have HPT := Lib.hid hpt; have HJA := Lib.hid hja; have HJQ := Lib.hid hjq; have HROW := Lib.hid hrow; have HROW2 := Lib.hid hrow2
  have hw1 : IntKind.i64.wrap ((n : Int) - 1) = (q : Int) := by rw [IntWalk.i64_in _ (by omega)]; omega
  have g0 : ((n : Int) == 0) = false := by simp; omega
  have g2 : ((n : Int) % 2 != 0) = false := by simp; omega
  have hq1 : q + 1 = n := by omega
  clear hn hv hJ hR h3 hq hja hjq hrow hrow2 hpt
  go_enter Try.func74, Try.ntmps74
  go_wp2
  clear hsz c0
  go_loopw [4] (fun iv wx => ∃ (i f : Nat), i ≤ n + 1 ∧ n + 1 ≤ i + 2 * f ∧ iv = .int .i64 i ∧ Hid (clsRow l f i = R) ∧ Hid (PtIn wx w.heap.size l) ∧ Hid (Below w.heap.size w wx)) (fun iv _ => n + 1 - (intOf iv).toNat)
  case atStart => exact ⟨1, n + 1, by omega, by omega, rfl, HF, HPT, Below.alloc1 _ _⟩
  case round =>
    obtain ⟨i, f, hi, hf, rfl, HRI, HPX, HBX⟩ := hrel
    clear HF HPT
    by_cases hlt : (i : Int) < (q : Int)
    · have j1 := fun w => HJ.out i w (by omega)
      have j2 := fun w => HJ.out q w (by omega)
      have hit := HROW.out f i (by omega) (by omega)
      have hon := HROW2.out f i (by omega) (by omega)
      have cr := fun w => spanX_any (jnA l i) (jnB l i) (min (jnA l q) (jnB l q)) (max (jnA l q) (jnB l q)) w
      rw [btw_minmax] at cr
      rw [(HJA.out i (by omega)).1, (HJA.out i (by omega)).2] at cr j1
      rw [HJQ.out.1, HJQ.out.2] at cr j2
      generalize min (l.getD i 0) (l.getD (i + 1) 0) = a1 at j1 cr
      generalize max (l.getD i 0) (l.getD (i + 1) 0) = a2 at j1 cr
      generalize min (l.getD q 0) 0 = a3 at j2 cr
      generalize max (l.getD q 0) 0 = a4 at j2 cr
      have hwi : IntKind.i64.wrap ((i : Int) + 2) = (i : Int) + 2 := IntWalk.i64_in _ (by omega)
      cases hx : crsB (l.getD i 0) (l.getD (i + 1) 0) (l.getD q 0) 0 with
      | true =>
        have h1 := HRI.out
        rw [hit hx] at h1
        rw [hx] at cr
        have HF : Hid (R = false) := h1.symm
        have HJ1 := Lib.hid j1; have HJ2 := Lib.hid j2; have HC := Lib.hid cr
        clear j1 j2 cr h1 HRI hx hit hon
        go_wp2_with fail
        go_region_held3 (fun w' => Hid (PtIn w' w.heap.size l ∧ Below w.heap.size w w') ∧ w'.cell? ⟨w.heap.size, 0, none⟩ = some (ptV l 0) ∧ w'.cell? ⟨w.heap.size, 1, none⟩ = some (ptV l 1) ∧ w'.cell? ⟨w.heap.size, 2, none⟩ = some (ptV l 2) ∧ w'.cell? ⟨w.heap.size, 3, none⟩ = some (ptV l 3) ∧ w'.cell? ⟨w.heap.size, 4, none⟩ = some (ptV l 4) ∧ w'.cell? ⟨w.heap.size, 5, none⟩ = some (ptV l 5) ∧ w'.cell? ⟨w.heap.size, 6, none⟩ = some (ptV l 6) ∧ w'.cell? ⟨w.heap.size, 7, none⟩ = some (ptV l 7) ∧ w'.cell? ⟨w.heap.size, 8, none⟩ = some (ptV l 8) ∧ w'.cell? ⟨w.heap.size, 9, none⟩ = some (ptV l 9) ∧ w'.cell? ⟨w.heap.size, 10, none⟩ = some (ptV l 10) ∧ w'.cell? ⟨w.heap.size, 11, none⟩ = some (ptV l 11) ∧ w'.cell? ⟨w.heap.size, 12, none⟩ = some (.int .i64 (n : Int)))
          (first | assumption | exact nextP_cells HV.out HL.out (show PtIn (World.drew _) _ _ from HPX.out) (Below.drew HBX.out) | exact nextP_keep HV.out HL.out (by assumption) (by assumption))
          (first
            | (go_at_call_of 90 (Value.int IntKind.i64 (i : Int)); ((with_reducible refine (HJ1.out _).mono ?_); rintro e' w' ⟨rfl, hb'⟩))
            | (go_at_call_of 90 (Value.int IntKind.i64 (q : Int)); ((with_reducible refine (HJ2.out _).mono ?_); rintro e' w' ⟨rfl, hb'⟩))
            | (go_at_call 91; ((with_reducible refine (HC.out _).mono ?_); rintro e' w' ⟨rfl, hb'⟩)))
        all_goals
          have hB : Below w.heap.size w w' := nextP_out (b := w.heap.size) (n := n) (l := l) (by assumption)
          have HBB := Lib.hid hB; clear hB
          go_wp2
          go_ret
          exact ⟨by rw [HF.out]; rfl, HBB.out⟩
      | false =>
        obtain ⟨g, hg, h2⟩ := hon hx
        have h1 := HRI.out
        rw [h2] at h1
        rw [hx] at cr
        have HRI2 := Lib.hid h1
        have HJ1 := Lib.hid j1; have HJ2 := Lib.hid j2; have HC := Lib.hid cr
        clear j1 j2 cr h1 HRI hx hit hon h2
        go_wp2_with fail
        go_region_held3 (fun w' => Hid (PtIn w' w.heap.size l ∧ Below w.heap.size w w') ∧ w'.cell? ⟨w.heap.size, 0, none⟩ = some (ptV l 0) ∧ w'.cell? ⟨w.heap.size, 1, none⟩ = some (ptV l 1) ∧ w'.cell? ⟨w.heap.size, 2, none⟩ = some (ptV l 2) ∧ w'.cell? ⟨w.heap.size, 3, none⟩ = some (ptV l 3) ∧ w'.cell? ⟨w.heap.size, 4, none⟩ = some (ptV l 4) ∧ w'.cell? ⟨w.heap.size, 5, none⟩ = some (ptV l 5) ∧ w'.cell? ⟨w.heap.size, 6, none⟩ = some (ptV l 6) ∧ w'.cell? ⟨w.heap.size, 7, none⟩ = some (ptV l 7) ∧ w'.cell? ⟨w.heap.size, 8, none⟩ = some (ptV l 8) ∧ w'.cell? ⟨w.heap.size, 9, none⟩ = some (ptV l 9) ∧ w'.cell? ⟨w.heap.size, 10, none⟩ = some (ptV l 10) ∧ w'.cell? ⟨w.heap.size, 11, none⟩ = some (ptV l 11) ∧ w'.cell? ⟨w.heap.size, 12, none⟩ = some (.int .i64 (n : Int)))
          (first | assumption | exact nextP_cells HV.out HL.out (show PtIn (World.drew _) _ _ from HPX.out) (Below.drew HBX.out) | exact nextP_keep HV.out HL.out (by assumption) (by assumption))
          (first
            | (go_at_call_of 90 (Value.int IntKind.i64 (i : Int)); ((with_reducible refine (HJ1.out _).mono ?_); rintro e' w' ⟨rfl, hb'⟩))
            | (go_at_call_of 90 (Value.int IntKind.i64 (q : Int)); ((with_reducible refine (HJ2.out _).mono ?_); rintro e' w' ⟨rfl, hb'⟩))
            | (go_at_call 91; ((with_reducible refine (HC.out _).mono ?_); rintro e' w' ⟨rfl, hb'⟩)))
        all_goals
          have hB : Below w.heap.size w w' := nextP_out (b := w.heap.size) (n := n) (l := l) (by assumption)
          have hP2 : PtIn w' w.heap.size l := nextP_pt (n := n) (w0 := w) (by assumption)
          have HBB := Lib.hid hB; have HPP := Lib.hid hP2; clear hB hP2
          go_wp2
          go_roundw
          case rel => exact ⟨i + 2, g, by omega, by omega, by go_num, HRI2, HPP, HBB⟩
          case measure => simp [intOf]; omega
    · have h1 := HRI.out
      rw [clsRow_no l f i (by rw [← HN.out]; omega)] at h1
      have HF : Hid (R = true) := h1.symm
      clear h1 HRI
      go_wp2
      go_ret
      exact ⟨by rw [HF.out]; rfl, HBX.out⟩

set_option maxHeartbeats 1000000 in
theorem closes_no (l : List Int) (w : World) (hl : l.length ≤ 12) (hc : l.length = 0 ∨ ¬ l.length % 2 = 0 ∨ ¬ l.getD 0 0 = 0) :
    Calls Try.prog 74 #[.agg (ptC l)] w (Tells w false) := by
  have hpt : PtIn (w.alloc (.cells (ptC l) 51)) w.heap.size l := heap_alloc_new w _
  have hsz := hpt.size hl
  have c0 := hpt.cell hl 0 (by omega)
  generalize l.getD 0 0 = x at c0 hc
  obtain ⟨n, hn⟩ : ∃ n, n = l.length := ⟨_, rfl⟩
  rw [← hn] at hl hsz hc
  clear hn hpt
  by_cases h0 : n = 0
  · have g0 : ((n : Int) == 0) = true := by simp; omega
    go_enter Try.func74, Try.ntmps74
    go_wp2
    all_goals
      go_ret
      exact ⟨rfl, Below.alloc1 _ _⟩
  · have g0 : ((n : Int) == 0) = false := by simp; omega
    by_cases h2 : n % 2 = 0
    · have g2 : ((n : Int) % 2 != 0) = false := by simp; omega
      have g3 : (x != 0) = true := by
        rcases hc with h | h | h
        · exact absurd h h0
        · exact absurd h2 h
        · simp; exact h
      clear hc
      go_enter Try.func74, Try.ntmps74
      go_wp2
      all_goals
        go_ret
        exact ⟨rfl, Below.alloc1 _ _⟩
    · have g2 : ((n : Int) % 2 != 0) = true := by simp; omega
      clear hc
      go_enter Try.func74, Try.ntmps74
      go_wp2
      all_goals
        go_ret
        exact ⟨rfl, Below.alloc1 _ _⟩

theorem closes_any (l : List Int) (w : World) (hl : l.length ≤ 12) :
    Calls Try.prog 74 #[.agg (ptC l)] w (Tells w (closesB l)) := by
  by_cases h1 : 2 ≤ l.length
  · by_cases h2 : l.length % 2 = 0
    · by_cases h3 : l.getD 0 0 = 0
      · rw [closes_row h1 h2 h3]; exact closes_run l w _ hl h1 h2 h3 rfl
      · rw [closes_first h3]; exact closes_no l w hl (.inr (.inr h3))
    · rw [closes_odd h2]; exact closes_no l w hl (.inr (.inl h2))
  · rw [closes_len h1]
    by_cases h0 : l.length = 0
    · exact closes_no l w hl (.inl h0)
    · exact closes_no l w hl (.inr (.inl (by omega)))

set_option maxHeartbeats 1000000 in
theorem isClosed_any (l : List Int) (w : World) (hl : l.length ≤ 12) :
    Calls Try.prog 51 #[.agg (ptC l)] w (Tells w ((firstCrs l).isNone && closesB l)) := by
  have hpt : PtIn (w.alloc (.cells (ptC l) 51)) w.heap.size l := heap_alloc_new w _
  have h1 := fun w => isOpen_any l w hl
  have h2 := fun w => closes_any l w hl
  generalize (firstCrs l).isNone = x at h1 ⊢
  generalize closesB l = y at h2 ⊢
  have HL := Lib.hid hl; have HPT := Lib.hid hpt; have H1 := Lib.hid h1; have H2 := Lib.hid h2
  clear h1 h2 hpt hl
  cases x with
  | true =>
    go_enter Try.func51, Try.ntmps51
    go_wp2_with (first
      | (with_reducible refine wp_loadPt rfl (.tmp 1) rfl w.heap.size l HL.out rfl HPT.out ?_)
      | (go_at_call 73; refine (H1.out _).mono ?_; rintro e w1 ⟨rfl, hb1⟩; have HP1 := Lib.hid (HPT.out.below hb1))
      | (with_reducible refine wp_loadPtG (.tmp 1) rfl w.heap.size l HL.out rfl HP1.out (by with_unfolding_all rfl) ?_)
      | (go_at_call 74; refine (H2.out _).mono ?_; rintro e w2 ⟨rfl, hb2⟩))
    go_ret
    exact ⟨rfl, Below.step (Below.step (Below.alloc1 _ _) hb1) hb2⟩
  | false =>
    go_enter Try.func51, Try.ntmps51
    go_wp2_with (first
      | (with_reducible refine wp_loadPt rfl (.tmp 1) rfl w.heap.size l HL.out rfl HPT.out ?_)
      | (go_at_call 73; refine (H1.out _).mono ?_; rintro e w1 ⟨rfl, hb1⟩))
    go_ret
    exact ⟨rfl, Below.step (Below.alloc1 _ _) hb1⟩

end Go.Proofs.Ytkohmdhjjnmfgab
