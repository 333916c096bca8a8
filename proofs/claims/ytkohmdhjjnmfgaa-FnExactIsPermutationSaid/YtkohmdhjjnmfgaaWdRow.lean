/- What is told of each number of a word: row, fromEnd, mirrored, parity. -/
import Derived.Test.YtkohmdhjjnmfgaaPtV
namespace Go.Proofs.Ytkohmdhjjnmfgaa
open Go.RowKit
set_option linter.unusedSimpArgs false
set_option linter.unusedVariables false

theorem tellL_succ (n : Nat) (g : Nat → Int) : tellL (n + 1) g = tellL n g ++ [g n] := by simp [tellL, List.range_succ]
/-- the first k told, zeros behind -/
def tellK (n : Nat) (g : Nat → Int) (k : Nat) : List Int := tellL k g ++ List.replicate (n - k) 0
theorem tellK_length (n : Nat) (g : Nat → Int) (k : Nat) (h : k ≤ n) : (tellK n g k).length = n := by simp [tellK, tellL_length]; omega
theorem tellK_zero (n : Nat) (g : Nat → Int) : tellK n g 0 = List.replicate n 0 := by simp [tellK, tellL]
theorem tellK_all (n : Nat) (g : Nat → Int) : tellK n g n = tellL n g := by simp [tellK]
theorem tellK_set (n : Nat) (g : Nat → Int) (k : Nat) (h : k < n) : (tellK n g k).set k (g k) = tellK n g (k + 1) := by
  unfold tellK
  rw [tellL_succ, List.set_append_right _ _ (by rw [tellL_length]; omega), tellL_length, Nat.sub_self, show n - k = (n - (k + 1)) + 1 by omega, List.replicate_succ, List.set_cons_zero, List.append_assoc]
  rfl

set_option maxHeartbeats 2000000 in
theorem row_idx (p : List Int) (g : Nat → Int) (bv : Value) (w : World) (hp : p.length ≤ 12) (hg : ∀ (k : Nat) (w : World), k < p.length → Calls Try.prog 38 #[bv, .int .i64 k] w (IntOut w (g k))) :
    Calls Try.prog 37 #[.agg (ptC p), .func (.func 38) #[bv] #[]] w (Made w (tellL p.length g)) := by
  have hpt : PtIn (w.alloc (.cells (ptC p) 36)) w.heap.size p := heap_alloc_new w _
  have hsz := hpt.size hp
  obtain ⟨n, hn⟩ : ∃ n, n = p.length := ⟨_, rfl⟩
  rw [← hn] at hsz hp hg ⊢
  have HG := Lib.hid hg
  have HT0 := Lib.hid (tellK_zero n g)
  clear hpt hn hg
  go_enter Try.func37, Try.ntmps37
  go_wp2_with (at_make; refine wp_make (w.alloc (.cells (ptC p) 36)) rfl _ _ rfl n _ _ rfl rfl rfl rfl (by omega) ?_; intro w2 hown hbel hsz2; simp only [World.size_alloc] at hown; have hb2 := Below.step (Below.alloc1 w (.cells (ptC p) 36)) (hbel.mono (Nat.le_refl _)))
  have HOWN := Lib.hid hown; have HB2 := Lib.hid hb2
  clear hown hb2 hbel hsz2
  go_loopw [12] (fun i wr => ∃ k : Nat, k ≤ n ∧ i = .int .i64 k ∧ Own (w.heap.size + 1) wr (.slice (some ⟨w.heap.size + 1, 0, none⟩) n n) (tellK n g k) ∧ Below w.heap.size w wr) (fun i _ => n - (intOf i).toNat)
  case atStart => exact ⟨0, by omega, rfl, by rw [HT0.out]; exact HOWN.out, HB2.out⟩
  case round =>
    obtain ⟨k, hk, rfl, hown, hbel⟩ := hrel
    clear HOWN HB2
    by_cases hlt : k < n
    · have HN := Lib.hid (tellK_set n g k hlt)
      have HL := Lib.hid (tellK_length n g k hk)
      have HO := Lib.hid hown; have HB := Lib.hid hbel
      have hgk := fun w => HG.out k w hlt
      generalize g k = y at HN hgk
      have HGK := Lib.hid hgk
      clear hown hbel hgk
      go_wp2_with (first
        | (go_at_call 38; (with_reducible refine (HGK.out _).mono ?_); rintro e w3 ⟨rfl, hb3⟩; have ho3 := HO.out.below hb3; have hdst := ho3.cellAt k (by rw [HL.out]; omega); have hfr := ho3.frozenAt k; have hnew := ho3.stored k y; rw [HN.out] at hnew; have HW := Lib.hid hnew; have HB3 := Lib.hid ((Below.step HB.out hb3).setCell (p := ⟨w.heap.size + 1, k, none⟩) (by simp) (.int .i64 y)); generalize (tellK n g k).getD k 0 = z at hdst; clear hb3 ho3 hnew))
      go_roundw
      case rel => exact ⟨k + 1, by omega, by go_num, HW.out, HB3.out⟩
      case measure => simp [intOf]; omega
    · obtain rfl : k = n := by omega
      go_wp2
      go_ret
      exact ⟨_, rfl, by rw [tellK_all] at hown; exact hown.mono (by omega), hbel⟩

set_option maxHeartbeats 2000000 in
theorem row_end (p : List Int) (g : Nat → Int) (bv : Value) (w : World) (hp : p.length ≤ 12) (hg : ∀ (k : Nat) (w : World), k < p.length → Calls Try.prog 39 #[bv, .int .i64 k] w (IntOut w (g k))) :
    Calls Try.prog 37 #[.agg (ptC p), .func (.func 39) #[bv] #[]] w (Made w (tellL p.length g)) := by
  have hpt : PtIn (w.alloc (.cells (ptC p) 36)) w.heap.size p := heap_alloc_new w _
  have hsz := hpt.size hp
  obtain ⟨n, hn⟩ : ∃ n, n = p.length := ⟨_, rfl⟩
  rw [← hn] at hsz hp hg ⊢
  have HG := Lib.hid hg
  have HT0 := Lib.hid (tellK_zero n g)
  clear hpt hn hg
  go_enter Try.func37, Try.ntmps37
  go_wp2_with (at_make; refine wp_make (w.alloc (.cells (ptC p) 36)) rfl _ _ rfl n _ _ rfl rfl rfl rfl (by omega) ?_; intro w2 hown hbel hsz2; simp only [World.size_alloc] at hown; have hb2 := Below.step (Below.alloc1 w (.cells (ptC p) 36)) (hbel.mono (Nat.le_refl _)))
  have HOWN := Lib.hid hown; have HB2 := Lib.hid hb2
  clear hown hb2 hbel hsz2
  go_loopw [12] (fun i wr => ∃ k : Nat, k ≤ n ∧ i = .int .i64 k ∧ Own (w.heap.size + 1) wr (.slice (some ⟨w.heap.size + 1, 0, none⟩) n n) (tellK n g k) ∧ Below w.heap.size w wr) (fun i _ => n - (intOf i).toNat)
  case atStart => exact ⟨0, by omega, rfl, by rw [HT0.out]; exact HOWN.out, HB2.out⟩
  case round =>
    obtain ⟨k, hk, rfl, hown, hbel⟩ := hrel
    clear HOWN HB2
    by_cases hlt : k < n
    · have HN := Lib.hid (tellK_set n g k hlt)
      have HL := Lib.hid (tellK_length n g k hk)
      have HO := Lib.hid hown; have HB := Lib.hid hbel
      have hgk := fun w => HG.out k w hlt
      generalize g k = y at HN hgk
      have HGK := Lib.hid hgk
      clear hown hbel hgk
      go_wp2_with (first
        | (go_at_call 39; (with_reducible refine (HGK.out _).mono ?_); rintro e w3 ⟨rfl, hb3⟩; have ho3 := HO.out.below hb3; have hdst := ho3.cellAt k (by rw [HL.out]; omega); have hfr := ho3.frozenAt k; have hnew := ho3.stored k y; rw [HN.out] at hnew; have HW := Lib.hid hnew; have HB3 := Lib.hid ((Below.step HB.out hb3).setCell (p := ⟨w.heap.size + 1, k, none⟩) (by simp) (.int .i64 y)); generalize (tellK n g k).getD k 0 = z at hdst; clear hb3 ho3 hnew))
      go_roundw
      case rel => exact ⟨k + 1, by omega, by go_num, HW.out, HB3.out⟩
      case measure => simp [intOf]; omega
    · obtain rfl : k = n := by omega
      go_wp2
      go_ret
      exact ⟨_, rfl, by rw [tellK_all] at hown; exact hown.mono (by omega), hbel⟩

set_option maxHeartbeats 2000000 in
theorem row_mir (p : List Int) (g : Nat → Int) (bv : Value) (w : World) (hp : p.length ≤ 12) (hg : ∀ (k : Nat) (w : World), k < p.length → Calls Try.prog 40 #[bv, .int .i64 k] w (IntOut w (g k))) :
    Calls Try.prog 37 #[.agg (ptC p), .func (.func 40) #[bv] #[]] w (Made w (tellL p.length g)) := by
  have hpt : PtIn (w.alloc (.cells (ptC p) 36)) w.heap.size p := heap_alloc_new w _
  have hsz := hpt.size hp
  obtain ⟨n, hn⟩ : ∃ n, n = p.length := ⟨_, rfl⟩
  rw [← hn] at hsz hp hg ⊢
  have HG := Lib.hid hg
  have HT0 := Lib.hid (tellK_zero n g)
  clear hpt hn hg
  go_enter Try.func37, Try.ntmps37
  go_wp2_with (at_make; refine wp_make (w.alloc (.cells (ptC p) 36)) rfl _ _ rfl n _ _ rfl rfl rfl rfl (by omega) ?_; intro w2 hown hbel hsz2; simp only [World.size_alloc] at hown; have hb2 := Below.step (Below.alloc1 w (.cells (ptC p) 36)) (hbel.mono (Nat.le_refl _)))
  have HOWN := Lib.hid hown; have HB2 := Lib.hid hb2
  clear hown hb2 hbel hsz2
  go_loopw [12] (fun i wr => ∃ k : Nat, k ≤ n ∧ i = .int .i64 k ∧ Own (w.heap.size + 1) wr (.slice (some ⟨w.heap.size + 1, 0, none⟩) n n) (tellK n g k) ∧ Below w.heap.size w wr) (fun i _ => n - (intOf i).toNat)
  case atStart => exact ⟨0, by omega, rfl, by rw [HT0.out]; exact HOWN.out, HB2.out⟩
  case round =>
    obtain ⟨k, hk, rfl, hown, hbel⟩ := hrel
    clear HOWN HB2
    by_cases hlt : k < n
    · have HN := Lib.hid (tellK_set n g k hlt)
      have HL := Lib.hid (tellK_length n g k hk)
      have HO := Lib.hid hown; have HB := Lib.hid hbel
      have hgk := fun w => HG.out k w hlt
      generalize g k = y at HN hgk
      have HGK := Lib.hid hgk
      clear hown hbel hgk
      go_wp2_with (first
        | (go_at_call 40; (with_reducible refine (HGK.out _).mono ?_); rintro e w3 ⟨rfl, hb3⟩; have ho3 := HO.out.below hb3; have hdst := ho3.cellAt k (by rw [HL.out]; omega); have hfr := ho3.frozenAt k; have hnew := ho3.stored k y; rw [HN.out] at hnew; have HW := Lib.hid hnew; have HB3 := Lib.hid ((Below.step HB.out hb3).setCell (p := ⟨w.heap.size + 1, k, none⟩) (by simp) (.int .i64 y)); generalize (tellK n g k).getD k 0 = z at hdst; clear hb3 ho3 hnew))
      go_roundw
      case rel => exact ⟨k + 1, by omega, by go_num, HW.out, HB3.out⟩
      case measure => simp [intOf]; omega
    · obtain rfl : k = n := by omega
      go_wp2
      go_ret
      exact ⟨_, rfl, by rw [tellK_all] at hown; exact hown.mono (by omega), hbel⟩

set_option maxHeartbeats 2000000 in
theorem row_par (p : List Int) (g : Nat → Int) (bv : Value) (w : World) (hp : p.length ≤ 12) (hg : ∀ (k : Nat) (w : World), k < p.length → Calls Try.prog 42 #[bv, .int .i64 k] w (IntOut w (g k))) :
    Calls Try.prog 37 #[.agg (ptC p), .func (.func 42) #[bv] #[]] w (Made w (tellL p.length g)) := by
  have hpt : PtIn (w.alloc (.cells (ptC p) 36)) w.heap.size p := heap_alloc_new w _
  have hsz := hpt.size hp
  obtain ⟨n, hn⟩ : ∃ n, n = p.length := ⟨_, rfl⟩
  rw [← hn] at hsz hp hg ⊢
  have HG := Lib.hid hg
  have HT0 := Lib.hid (tellK_zero n g)
  clear hpt hn hg
  go_enter Try.func37, Try.ntmps37
  go_wp2_with (at_make; refine wp_make (w.alloc (.cells (ptC p) 36)) rfl _ _ rfl n _ _ rfl rfl rfl rfl (by omega) ?_; intro w2 hown hbel hsz2; simp only [World.size_alloc] at hown; have hb2 := Below.step (Below.alloc1 w (.cells (ptC p) 36)) (hbel.mono (Nat.le_refl _)))
  have HOWN := Lib.hid hown; have HB2 := Lib.hid hb2
  clear hown hb2 hbel hsz2
  go_loopw [12] (fun i wr => ∃ k : Nat, k ≤ n ∧ i = .int .i64 k ∧ Own (w.heap.size + 1) wr (.slice (some ⟨w.heap.size + 1, 0, none⟩) n n) (tellK n g k) ∧ Below w.heap.size w wr) (fun i _ => n - (intOf i).toNat)
  case atStart => exact ⟨0, by omega, rfl, by rw [HT0.out]; exact HOWN.out, HB2.out⟩
  case round =>
    obtain ⟨k, hk, rfl, hown, hbel⟩ := hrel
    clear HOWN HB2
    by_cases hlt : k < n
    · have HN := Lib.hid (tellK_set n g k hlt)
      have HL := Lib.hid (tellK_length n g k hk)
      have HO := Lib.hid hown; have HB := Lib.hid hbel
      have hgk := fun w => HG.out k w hlt
      generalize g k = y at HN hgk
      have HGK := Lib.hid hgk
      clear hown hbel hgk
      go_wp2_with (first
        | (go_at_call 42; (with_reducible refine (HGK.out _).mono ?_); rintro e w3 ⟨rfl, hb3⟩; have ho3 := HO.out.below hb3; have hdst := ho3.cellAt k (by rw [HL.out]; omega); have hfr := ho3.frozenAt k; have hnew := ho3.stored k y; rw [HN.out] at hnew; have HW := Lib.hid hnew; have HB3 := Lib.hid ((Below.step HB.out hb3).setCell (p := ⟨w.heap.size + 1, k, none⟩) (by simp) (.int .i64 y)); generalize (tellK n g k).getD k 0 = z at hdst; clear hb3 ho3 hnew))
      go_roundw
      case rel => exact ⟨k + 1, by omega, by go_num, HW.out, HB3.out⟩
      case measure => simp [intOf]; omega
    · obtain rfl : k = n := by omega
      go_wp2
      go_ret
      exact ⟨_, rfl, by rw [tellK_all] at hown; exact hown.mono (by omega), hbel⟩


theorem placeW (n k : Nat) (h : k < n) : (n : Int) - 1 - (k : Int) = ((n - 1 - k : Nat) : Int) := by omega

set_option maxHeartbeats 1000000 in
theorem placeW_any (n : Nat) (x : Int) (w : World) (hn : n ≤ 12) (h0 : -100 ≤ x) (h1 : x ≤ 100) :
    Calls Try.prog 50 #[.agg #[.int .i64 n], .int .i64 x] w (IntOut w ((n : Int) - 1 - x)) := by
  have hw1 : IntKind.i64.wrap ((n : Int) - 1) = (n : Int) - 1 := IntWalk.i64_in _ (by omega)
  have hw2 : IntKind.i64.wrap ((n : Int) - 1 - x) = (n : Int) - 1 - x := IntWalk.i64_in _ (by omega)
  go_enter Try.func50, Try.ntmps50
  go_wp2
  go_ret
  exact ⟨rfl, Below.alloc1 _ _⟩

set_option maxHeartbeats 1000000 in
theorem fromEnd_any (p : List Int) (k : Nat) (w : World) (hp : p.length ≤ 12) (hk : k < p.length) :
    Calls Try.prog 39 #[.agg (ptC p), .int .i64 k] w (IntOut w (p.getD (p.length - 1 - k) 0)) := by
  have hpt : PtIn (w.alloc (.cells (ptC p) 36)) w.heap.size p := heap_alloc_new w _
  have hsz := hpt.size hp
  have HPT := Lib.hid hpt
  have HP := Lib.hid hp
  obtain ⟨n, hn⟩ : ∃ n, n = p.length := ⟨_, rfl⟩
  rw [← hn] at hsz hp hk ⊢
  have hpl := fun w => placeW_any n (k : Int) w hp (by omega) (by omega)
  rw [placeW n k hk] at hpl
  have HPL := Lib.hid hpl
  obtain ⟨j, hj⟩ : ∃ j, j = n - 1 - k := ⟨_, rfl⟩
  rw [← hj] at HPL ⊢
  have hj12 : j < 12 := by omega
  have hcy : ∀ w', PtIn w' w.heap.size p → w'.cell? ⟨w.heap.size, j, none⟩ = some (.int .i64 (p.getD j 0)) := fun w' h => h.cell HP.out j hj12
  generalize p.getD j 0 = y at hcy ⊢
  have HCY := Lib.hid hcy
  clear hpt hn hj hpl hcy
  go_enter Try.func39, Try.ntmps39
  go_wp2_with (go_at_call 50; refine (HPL.out _).mono ?_; rintro e w2 ⟨rfl, hb2⟩; have hcl := HCY.out _ (HPT.out.below hb2))
  go_ret
  exact ⟨rfl, Below.step (Below.alloc1 _ _) hb2⟩

set_option maxHeartbeats 1000000 in
theorem mirrored_any (p : List Int) (k : Nat) (w : World) (hp : p.length ≤ 12) (hk : k < p.length) (hr : InRange p) :
    Calls Try.prog 40 #[.agg (ptC p), .int .i64 k] w (IntOut w ((p.length : Int) - 1 - p.getD k 0)) := by
  have hpt : PtIn (w.alloc (.cells (ptC p) 36)) w.heap.size p := heap_alloc_new w _
  have hsz := hpt.size hp
  have hcl := hpt.cell hp k (by omega)
  have hx := hr k hk
  have hpl := fun w => placeW_any p.length (p.getD k 0) w hp (by omega) (by omega)
  have HPT := Lib.hid hpt
  have HP := Lib.hid hp
  obtain ⟨n, hn⟩ : ∃ n, n = p.length := ⟨_, rfl⟩
  rw [← hn] at hsz hp hk hx hpl ⊢
  generalize p.getD k 0 = y at hcl hpl hx ⊢
  have HPL := Lib.hid hpl
  have hk12 : k < 12 := by omega
  have hk1 : (0 : Int) ≤ (k : Int) := by omega
  have hk2 : (k : Int) < 12 := by omega
  clear hpt hn hpl hr
  go_enter Try.func40, Try.ntmps40
  go_wp2_with fail
  go_region_held3 (fun w' => Hid (Below w.heap.size w w') ∧ w'.cell? ⟨w.heap.size, 12, none⟩ = some (.int .i64 (n : Int)) ∧ w'.cell? ⟨w.heap.size, k, none⟩ = some (.int .i64 y))
    (first | assumption | exact h2_start hsz hcl (Below.drew (Below.alloc1 _ _)) | exact h2_keep (by assumption) (by assumption))
    ((go_at_call 50; ((with_reducible refine (HPL.out _).mono ?_); rintro e' w' ⟨rfl, hb'⟩)))
  have hB : Below w.heap.size w w' := h2_out (by assumption)
  go_wp2
  go_ret
  exact ⟨rfl, hB⟩

set_option maxHeartbeats 1000000 in
theorem parity_any (p b : List Int) (x i : Nat) (w : World) (hp : p.length ≤ 12) (hb : b.length = 12) (hx : x < 12) (hi : b.getD x 0 = (i : Int)) :
    Calls Try.prog 42 #[.agg (wdC p b), .int .i64 x] w (IntOut w ((i % 2 : Nat) : Int)) := by
  have hw : WdIn (w.alloc (.cells (wdC p b) 38)) w.heap.size p b := heap_alloc_new w _
  have c1 := hw.idx hp hb x hx
  rw [hi] at c1
  have e : (i : Int).tmod 2 = ((i % 2 : Nat) : Int) := by rw [Int.tmod_eq_emod_of_nonneg (by omega)]; omega
  clear hw hi
  go_enter Try.func42, Try.ntmps42
  go_wp2
  go_ret
  exact ⟨by simp, Below.alloc1 _ _⟩

end Go.Proofs.Ytkohmdhjjnmfgaa
