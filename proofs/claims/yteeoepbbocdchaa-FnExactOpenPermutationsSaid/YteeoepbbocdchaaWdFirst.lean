/- The first two joins of points that cross. -/
import Derived.Test.YteeoepbbocdchaaWdJoin
namespace Go.Proofs.Yteeoepbbocdchaa
open Go.RowKit
set_option linter.unusedSimpArgs false
set_option linter.unusedVariables false

def fcV : Option (Nat × Nat) → Value
  | some (i, j) => .tuple #[.int .i64 (i : Int), .int .i64 (j : Int), .bool true]
  | none => .tuple #[.int .i64 0, .int .i64 0, .bool false]
def FcOut (w : World) (o : Option (Nat × Nat)) (e : Ending) (w' : World) : Prop := e = .returned (fcV o) ∧ Below w.heap.size w w'

theorem jn_cross (l : List Int) (i j : Nat) (hi : i + 1 < l.length) (hj : j + 1 < l.length) : crsB (jnA l i) (jnB l i) (jnA l j) (jnB l j) = crsAt l i j := by
  unfold jnA jnB crsAt
  rw [Nat.mod_eq_of_lt hi, Nat.mod_eq_of_lt hj]

theorem results_fc (tmps : Array Value) (w : World) (x y z : Value) (h2 : tmps.getD 2 undef = x) (h3 : tmps.getD 3 undef = y) (h4 : tmps.getD 4 undef = z) :
    (results Try.f133 tmps).run Try.prog w = .ok (.tuple #[x, y, z]) w := by
  have h2' : tmps[2]?.getD undef = x := by simpa using h2
  have h3' : tmps[3]?.getD undef = y := by simpa using h3
  have h4' : tmps[4]?.getD undef = z := by simpa using h4
  have hr : Try.f133.results = #[.tmp 2, .tmp 3, .tmp 4] := by kernel_rfl
  simp [results, hr, h2', h3', h4']

set_option maxHeartbeats 4000000 in
set_option maxRecDepth 100000 in
theorem firstCrossing_any (l : List Int) (w : World) (hl : l.length ≤ 12) :
    Calls Try.prog 133 #[.agg (ptC l)] w (FcOut w (firstCrs l)) := by
  have hpt : PtIn (w.alloc (.cells (ptC l) 70)) w.heap.size l := heap_alloc_new w _
  have hsz := hpt.size hl
  have hJ := fun i w h => join_pts l i w hl h
  rw [ptC_lit hl] at hJ
  obtain ⟨n, hn⟩ : ∃ n, n = l.length := ⟨_, rfl⟩
  have hv : ptV l 12 = .int .i64 (n : Int) := by rw [hn]; rfl
  rw [hv] at hJ
  obtain ⟨F, hF⟩ : ∃ F, firstCrs l = F := ⟨_, rfl⟩
  rw [hF]
  unfold firstCrs at hF
  have hcr := fun i j h1 h2 => jn_cross l i j h1 h2
  rw [← hn] at hsz hJ hF hcr
  have hn12 : n ≤ 12 := by omega
  have HN := Lib.hid hn; have HV := Lib.hid hv; have HJ := Lib.hid hJ; have HF : Hid (crsFrom l (n - 1 - 0) 0 = F) := hF
  have HL := Lib.hid hl; have HPT := Lib.hid hpt; have HCR := Lib.hid hcr
  have hw1 : IntKind.i64.wrap ((n : Int) - 1) = (n : Int) - 1 := IntWalk.i64_in _ (by omega)
  clear hn hv hJ hF hl hcr
  go_enter Try.func133, Try.ntmps133
  go_wp2
  clear hsz hpt hw1
  go_loopw [10] (fun jv wr => ∃ j : Nat, j ≤ n - 1 ∧ jv = .int .i64 j ∧ Hid (crsFrom l (n - 1 - j) j = F) ∧ Hid (PtIn wr w.heap.size l) ∧ Hid (Below w.heap.size w wr)) (fun jv _ => n - 1 - (intOf jv).toNat)
  case atStart => exact ⟨0, by omega, rfl, HF, HPT, Below.alloc1 _ _⟩
  case round =>
    obtain ⟨j, hj, rfl, HJF, HP, HB⟩ := hrel
    clear HF HPT
    by_cases hlt : (j : Int) < (n : Int) - 1
    · have hj1 : j + 1 < n := by omega
      have hstep := HJF.out
      rw [show n - 1 - j = (n - 1 - (j + 1)) + 1 by omega, crsFrom, ← HN.out] at hstep
      have HRW : Hid (rowOr (crsRow l j (n + 1) (j % 2)) j (crsFrom l (n - 1 - (j + 1)) (j + 1)) = F) := hstep
      have hmod : (j : Int).tmod 2 = ((j % 2 : Nat) : Int) := by rw [Int.tmod_eq_emod_of_nonneg (by omega)]; omega
      have hj2 : j % 2 < 2 := Nat.mod_lt _ (by omega)
      obtain ⟨i0, hi0⟩ : ∃ i0, i0 = j % 2 := ⟨_, rfl⟩
      rw [← hi0] at hmod hj2 HRW
      clear hstep HJF hi0
      go_wp2
      go_loopw [6] (fun iv wx => ∃ (i f : Nat), i ≤ j + 1 ∧ j + 1 ≤ i + 2 * f ∧ iv = .int .i64 i ∧ Hid (rowOr (crsRow l j f i) j (crsFrom l (n - 1 - (j + 1)) (j + 1)) = F) ∧ Hid (PtIn wx w.heap.size l) ∧ Hid (Below w.heap.size w wx)) (fun iv _ => j + 1 - (intOf iv).toNat)
      case atStart => exact ⟨i0, n + 1, by omega, by omega, by first | rfl | simp [hmod] | go_num, HRW, HP, HB⟩
      case round =>
        obtain ⟨i, f, hi, hf, rfl, HRI, HPX, HBX⟩ := hrel
        clear HRW HP HB hmod
        by_cases hij : i < j
        · have j1 := fun w => HJ.out i w (by omega)
          have j2 := fun w => HJ.out j w (by omega)
          have hc := HCR.out i j (by omega) (by omega)
          have cr := fun w => spanX_any (jnA l i) (jnB l i) (min (jnA l j) (jnB l j)) (max (jnA l j) (jnB l j)) w
          rw [btw_minmax, hc] at cr
          generalize min (jnA l i) (jnB l i) = a1 at j1 cr
          generalize max (jnA l i) (jnB l i) = a2 at j1 cr
          generalize min (jnA l j) (jnB l j) = a3 at j2 cr
          generalize max (jnA l j) (jnB l j) = a4 at j2 cr
          have hwi : IntKind.i64.wrap ((i : Int) + 2) = (i : Int) + 2 := IntWalk.i64_in _ (by omega)
          cases hx : crsAt l i j with
          | true =>
            have h1 := HRI.out
            rw [crsRow_hit l j f i hij hf hx] at h1
            rw [hx] at cr
            have HF : Hid (F = some (i, j)) := h1.symm
            have HJ1 := Lib.hid j1; have HJ2 := Lib.hid j2; have HC := Lib.hid cr
            clear j1 j2 cr h1 HRI hx hc
            go_wp2_with fail
            go_region_held3 (fun w' => Hid (PtIn w' w.heap.size l ∧ Below w.heap.size w w') ∧ w'.cell? ⟨w.heap.size, 0, none⟩ = some (ptV l 0) ∧ w'.cell? ⟨w.heap.size, 1, none⟩ = some (ptV l 1) ∧ w'.cell? ⟨w.heap.size, 2, none⟩ = some (ptV l 2) ∧ w'.cell? ⟨w.heap.size, 3, none⟩ = some (ptV l 3) ∧ w'.cell? ⟨w.heap.size, 4, none⟩ = some (ptV l 4) ∧ w'.cell? ⟨w.heap.size, 5, none⟩ = some (ptV l 5) ∧ w'.cell? ⟨w.heap.size, 6, none⟩ = some (ptV l 6) ∧ w'.cell? ⟨w.heap.size, 7, none⟩ = some (ptV l 7) ∧ w'.cell? ⟨w.heap.size, 8, none⟩ = some (ptV l 8) ∧ w'.cell? ⟨w.heap.size, 9, none⟩ = some (ptV l 9) ∧ w'.cell? ⟨w.heap.size, 10, none⟩ = some (ptV l 10) ∧ w'.cell? ⟨w.heap.size, 11, none⟩ = some (ptV l 11) ∧ w'.cell? ⟨w.heap.size, 12, none⟩ = some (.int .i64 (n : Int)))
              (first | assumption | exact nextP_cells HV.out HL.out (show PtIn (World.drew _) _ _ from HPX.out) (Below.drew HBX.out) | exact nextP_keep HV.out HL.out (by assumption) (by assumption))
              (first
                | (go_at_call_of 170 (Value.int IntKind.i64 (i : Int)); ((with_reducible refine (HJ1.out _).mono ?_); rintro e' w' ⟨rfl, hb'⟩))
                | (go_at_call_of 170 (Value.int IntKind.i64 (j : Int)); ((with_reducible refine (HJ2.out _).mono ?_); rintro e' w' ⟨rfl, hb'⟩))
                | (go_at_call 171; ((with_reducible refine (HC.out _).mono ?_); rintro e' w' ⟨rfl, hb'⟩)))
            all_goals
              have hB : Below w.heap.size w w' := nextP_out (b := w.heap.size) (n := n) (l := l) (by assumption)
              have HBB := Lib.hid hB; clear hB
              go_wp2
              exact bodyPost_ret (results_fc _ _ _ _ _ rfl rfl rfl) rfl ⟨by rw [HF.out]; rfl, HBB.out⟩
          | false =>
            obtain ⟨g, hg, h2⟩ := crsRow_on l j f i hij hf hx
            have h1 := HRI.out
            rw [h2] at h1
            rw [hx] at cr
            have HRI2 := Lib.hid h1
            have HJ1 := Lib.hid j1; have HJ2 := Lib.hid j2; have HC := Lib.hid cr
            clear j1 j2 cr h1 HRI hx hc h2
            go_wp2_with fail
            go_region_held3 (fun w' => Hid (PtIn w' w.heap.size l ∧ Below w.heap.size w w') ∧ w'.cell? ⟨w.heap.size, 0, none⟩ = some (ptV l 0) ∧ w'.cell? ⟨w.heap.size, 1, none⟩ = some (ptV l 1) ∧ w'.cell? ⟨w.heap.size, 2, none⟩ = some (ptV l 2) ∧ w'.cell? ⟨w.heap.size, 3, none⟩ = some (ptV l 3) ∧ w'.cell? ⟨w.heap.size, 4, none⟩ = some (ptV l 4) ∧ w'.cell? ⟨w.heap.size, 5, none⟩ = some (ptV l 5) ∧ w'.cell? ⟨w.heap.size, 6, none⟩ = some (ptV l 6) ∧ w'.cell? ⟨w.heap.size, 7, none⟩ = some (ptV l 7) ∧ w'.cell? ⟨w.heap.size, 8, none⟩ = some (ptV l 8) ∧ w'.cell? ⟨w.heap.size, 9, none⟩ = some (ptV l 9) ∧ w'.cell? ⟨w.heap.size, 10, none⟩ = some (ptV l 10) ∧ w'.cell? ⟨w.heap.size, 11, none⟩ = some (ptV l 11) ∧ w'.cell? ⟨w.heap.size, 12, none⟩ = some (.int .i64 (n : Int)))
              (first | assumption | exact nextP_cells HV.out HL.out (show PtIn (World.drew _) _ _ from HPX.out) (Below.drew HBX.out) | exact nextP_keep HV.out HL.out (by assumption) (by assumption))
              (first
                | (go_at_call_of 170 (Value.int IntKind.i64 (i : Int)); ((with_reducible refine (HJ1.out _).mono ?_); rintro e' w' ⟨rfl, hb'⟩))
                | (go_at_call_of 170 (Value.int IntKind.i64 (j : Int)); ((with_reducible refine (HJ2.out _).mono ?_); rintro e' w' ⟨rfl, hb'⟩))
                | (go_at_call 171; ((with_reducible refine (HC.out _).mono ?_); rintro e' w' ⟨rfl, hb'⟩)))
            all_goals
              have hB : Below w.heap.size w w' := nextP_out (b := w.heap.size) (n := n) (l := l) (by assumption)
              have hP2 : PtIn w' w.heap.size l := nextP_pt (n := n) (w0 := w) (by assumption)
              have HBB := Lib.hid hB; have HPP := Lib.hid hP2; clear hB hP2
              go_wp2
              go_roundw
              case rel => exact ⟨i + 2, g, by omega, by omega, by go_num, HRI2, HPP, HBB⟩
              case measure => simp [intOf]; omega
        · have h1 := HRI.out
          rw [crsRow_no l j f i hij] at h1
          have HF : Hid (crsFrom l (n - 1 - (j + 1)) (j + 1) = F) := h1
          clear h1 HRI
          go_wp2
          go_roundw
          case rel => exact ⟨j + 1, by omega, by go_num, HF, HPX, HBX⟩
          case measure => simp [intOf]; omega
    · have h1 := HJF.out
      rw [show n - 1 - j = 0 by omega, crsFrom] at h1
      have HF : Hid (F = none) := h1.symm
      clear h1 HJF
      go_wp2
      exact bodyPost_ret (results_fc _ _ _ _ _ rfl rfl rfl) rfl ⟨by rw [HF.out]; rfl, HB.out⟩

end Go.Proofs.Yteeoepbbocdchaa
