/- The model's peCrossing. -/
import Derived.Test.YteeoepbbocdchaaWdPe
namespace Go.Proofs.Yteeoepbbocdchaa
open Go.RowKit
set_option linter.unusedSimpArgs false
set_option linter.unusedVariables false

def fcL : Option (Nat × Nat) → List Int
  | some (i, j) => [(i : Int), (i : Int) + 1, (j : Int), (j : Int) + 1]
  | none => []

theorem Own.lit4 (B : Nat) (w : World) (x y z u : Int) (hB : B ≤ w.heap.size) : Own B (w.alloc (.cells #[.int .i64 x, .int .i64 y, .int .i64 z, .int .i64 u] 3)) (.slice (some ⟨w.heap.size, 0, none⟩) 4 4) [x, y, z, u] :=
  World.ownsRow_lit w #[.int .i64 x, .int .i64 y, .int .i64 z, .int .i64 u] 4 hB (by unfold maxLen; omega) rfl

set_option maxHeartbeats 4000000 in
set_option maxRecDepth 100000 in
theorem peCrossing_run (v : Value) (l : List Int) (w : World) (h : Rd w v l) (hl : l.length ≤ 12) (h1 : 1 ≤ l.length) :
    Calls Try.prog 89 #[v] w (Gives w (fcL (firstCrs l)) (firstCrs l).isSome) := by
  obtain ⟨F, hF⟩ : ∃ F, firstCrs l = F := ⟨_, rfl⟩
  rw [hF]
  unfold firstCrs at hF
  have h0 := h
  obtain ⟨bb, off, c, rfl, hlc, hcm, hcell⟩ := h.at (by omega)
  obtain ⟨n, hn⟩ : ∃ n, n = l.length := ⟨_, rfl⟩
  rw [← hn] at hlc hl h0 hF hcell h1 ⊢
  unfold maxLen at hcm
  have HN := Lib.hid hn; have HC := Lib.hid hcell
  have HF : Hid (crsFrom l (n - 1 - 0) 0 = F) := hF
  clear hn hcell hF h h0
  go_enter Try.func89, Try.ntmps89
  go_wp2
  go_loopw [4] (fun jv wr => ∃ j : Nat, j ≤ n - 1 ∧ jv = .int .i64 j ∧ Hid (crsFrom l (n - 1 - j) j = F) ∧ Hid (Below w.heap.size w wr)) (fun jv _ => n - 1 - (intOf jv).toNat)
  case atStart => exact ⟨0, by omega, rfl, HF, Below.refl _ _⟩
  case round =>
    obtain ⟨j, hj, rfl, HJF, HB⟩ := hrel
    clear HF
    have hwj : IntKind.i64.wrap ((j : Int) + 1) = (j : Int) + 1 := IntWalk.i64_in _ (by omega)
    by_cases hlt : (j : Int) + 1 < (n : Int)
    · have hj1 : j + 1 < n := by omega
      have hstep := HJF.out
      rw [show n - 1 - j = (n - 1 - (j + 1)) + 1 by omega, crsFrom, ← HN.out] at hstep
      have HRW : Hid (rowOr (crsRow l j (n + 1) (j % 2)) j (crsFrom l (n - 1 - (j + 1)) (j + 1)) = F) := hstep
      have hmod : (j : Int).tmod 2 = ((j % 2 : Nat) : Int) := by rw [Int.tmod_eq_emod_of_nonneg (by omega)]; omega
      have hj2 : j % 2 < 2 := Nat.mod_lt _ (by omega)
      obtain ⟨i0, hi0⟩ : ∃ i0, i0 = j % 2 := ⟨_, rfl⟩
      rw [← hi0] at hmod hj2 HRW
      have HJF' := HJF
      clear hstep HJF hi0
      go_wp2
      go_loopw [5] (fun iv wx => ∃ (i f : Nat), i ≤ j + 1 ∧ j + 1 ≤ i + 2 * f ∧ iv = .int .i64 i ∧ Hid (rowOr (crsRow l j f i) j (crsFrom l (n - 1 - (j + 1)) (j + 1)) = F) ∧ Hid (Below w.heap.size w wx)) (fun iv _ => j + 1 - (intOf iv).toNat)
      case atStart => exact ⟨i0, n + 1, by omega, by omega, by first | rfl | simp [hmod] | go_num, HRW, HB⟩
      case round =>
        obtain ⟨i, f, hi, hf, rfl, HRI, HBX⟩ := hrel
        clear HRW HB hmod
        by_cases hij : i < j
        · have hwi : IntKind.i64.wrap ((i : Int) + 1) = (i : Int) + 1 := IntWalk.i64_in _ (by omega)
          have hwi2 : IntKind.i64.wrap ((i : Int) + 2) = (i : Int) + 2 := IntWalk.i64_in _ (by omega)
          have keep : ∀ k, k < n → wr.cell? ⟨bb, off + k, none⟩ = some (.int .i64 (l.getD k 0)) := fun k hk => (HBX.out.cell (p := ⟨bb, off + k, none⟩) (World.block_lt_of_cell? w _ (HC.out k hk))).trans (HC.out k hk)
          have c1 := keep i (by omega)
          have c2 := keep (i + 1) (by omega)
          have c3 := keep j (by omega)
          have c4 := keep (j + 1) (by omega)
          have cr := fun w => peCross_any (l.getD i 0) (l.getD (i + 1) 0) (l.getD j 0) (l.getD (j + 1) 0) w
          have hcr : crsB (l.getD i 0) (l.getD (i + 1) 0) (l.getD j 0) (l.getD (j + 1) 0) = crsAt l i j := rfl
          rw [hcr] at cr
          generalize l.getD i 0 = x1 at c1 cr
          generalize l.getD (i + 1) 0 = x2 at c2 cr
          generalize l.getD j 0 = x3 at c3 cr
          generalize l.getD (j + 1) 0 = x4 at c4 cr
          have b1 : (0 : Int) ≤ (i : Int) := by omega
          have b2 : (i : Int) < (n : Int) := by omega
          have b3 : (0 : Int) ≤ (i : Int) + 1 := by omega
          have b4 : (i : Int) + 1 < (n : Int) := by omega
          have b5 : (0 : Int) ≤ (j : Int) := by omega
          have b6 : (j : Int) < (n : Int) := by omega
          have b7 : (0 : Int) ≤ (j : Int) + 1 := by omega
          have e5 : ((i : Int) + 1).toNat = i + 1 := by omega
          have e6 : ((j : Int) + 1).toNat = j + 1 := by omega
          cases hx : crsAt l i j with
          | true =>
            have h1 := HRI.out
            rw [crsRow_hit l j f i hij hf hx] at h1
            rw [hx] at cr
            have HF : Hid (F = some (i, j)) := h1.symm
            have HCR : Hid (∀ q, Calls Try.prog 131 #[.int .i64 x1, .int .i64 x2, .int .i64 x3, .int .i64 x4] (wr.drewN q) fun e w' => e = .returned (.bool true) ∧ w' = wr.drewN q) := fun q => (cr (wr.drewN q)).mono fun _ _ h => ⟨h.1, h.2.symm⟩
            clear cr h1 HRI hx keep hcr
            go_wp2
            go_quiet ((go_at_call 131; with_reducible exact Calls.quiet_of_same (HCR.out _)))
            go_wp2
            go_ret2
            refine ⟨_, by rw [HF.out]; rfl, by rw [HF.out]; exact Own.lit4 _ _ _ _ _ _ HBX.out.size, ?_⟩
            exact (below_drewN HBX.out _).alloc HBX.out.size _
          | false =>
            obtain ⟨g, hg, h2⟩ := crsRow_on l j f i hij hf hx
            have h1 := HRI.out
            rw [h2] at h1
            rw [hx] at cr
            have HRI2 := Lib.hid h1
            have HCR : Hid (∀ q, Calls Try.prog 131 #[.int .i64 x1, .int .i64 x2, .int .i64 x3, .int .i64 x4] (wr.drewN q) fun e w' => e = .returned (.bool false) ∧ w' = wr.drewN q) := fun q => (cr (wr.drewN q)).mono fun _ _ h => ⟨h.1, h.2.symm⟩
            clear cr h1 HRI hx keep hcr h2
            go_wp2
            go_quiet ((go_at_call 131; with_reducible exact Calls.quiet_of_same (HCR.out _)))
            go_wp2
            go_roundw
            case rel => exact ⟨i + 2, g, by omega, by omega, by go_num, HRI2, below_drewN HBX.out _⟩
            case measure => simp [intOf]; omega
        · have h1 := HRI.out
          rw [crsRow_no l j f i hij] at h1
          have HF : Hid (crsFrom l (n - 1 - (j + 1)) (j + 1) = F) := h1
          clear h1 HRI
          go_wp2
          go_roundw
          case rel => exact ⟨j + 1, by omega, by go_num, HF, HBX⟩
          case measure => simp [intOf]; omega
    · have h1 := HJF.out
      rw [show n - 1 - j = 0 by omega, crsFrom] at h1
      have HF : Hid (F = none) := h1.symm
      clear h1 HJF
      go_wp2
      go_ret2
      exact ⟨_, by rw [HF.out]; rfl, by rw [HF.out]; exact Own.nil _ _, HB.out⟩

end Go.Proofs.Yteeoepbbocdchaa
