/- What is told of each number of a word: row, fromEnd, mirrored, parity. -/
import Derived.Test.YtkohmdhjjnmfgabPtV
namespace Go.Proofs.Ytkohmdhjjnmfgab
open Go.RowKit
set_option linter.unusedSimpArgs false
set_option linter.unusedVariables false

theorem tellL_succ (n : Nat) (g : Nat → Int) : tellL (n + 1) g = tellL n g ++ [g n] := by simp [tellL, List.range_succ]
/-- the first k told, zeros behind -/
def tellK (n : Nat) (g : Nat → Int) (k : Nat) : List Int := tellL k g ++ List.replicate (n - k) 0
theorem tellK_length (n : Nat) (g : Nat → Int) (k : Nat) (h : k ≤ n) : (tellK n g k).length = n := by simp [tellK, tellL_length]; omega
theorem tellK_zero (n : Nat) (g : Nat → Int) : tellK n g 0 = List.replicate n 0 := by simp [tellK, tellL]
theorem tellK_all (n : Nat) (g : Nat → Int) : tellK n g n = tellL n g := by simp [tellK]
theorem tellK_set (n : Nat) (g : Nat → Int) (k : Nat) (h : k < n) : (tellK n g k).set k (g k) = tellK n g (k + 1) := by
  unfold tellK
  rw [tellL_succ, List.set_append_right _ _ (by rw [tellL_length]; omega), tellL_length, Nat.sub_self, show n - k = (n - (k + 1)) + 1 by omega, List.replicate_succ, List.set_cons_zero, List.append_assoc]
  rfl

set_option maxHeartbeats 2000000 in
theorem row_idx (p : List Int) (g : Nat → Int) (bv : Value) (w : World) (hp : p.length ≤ 12) (hg : ∀ (k : Nat) (w : World), k < p.length → Calls Try.prog 72 #[bv, .int .i64 k] w (IntOut w (g k))) :
    Calls Try.prog 41 #[.agg (ptC p), .func (.func 72) #[bv] #[]] w (Made w (tellL p.length g)) := by
  have hpt : PtIn (w.alloc (.cells (ptC p) 51)) w.heap.size p := heap_alloc_new w _
  have hsz := hpt.size hp
  obtain ⟨n, hn⟩ : ∃ n, n = p.length := ⟨_, rfl⟩
  rw [← hn] at hsz hp hg ⊢
  have HG := Lib.hid hg
  have HT0 := Lib.hid (tellK_zero n g)
  clear hpt hn hg
  go_enter Try.func41, Try.ntmps41
  go_wp2_with (at_make; refine wp_make (w.alloc (.cells (ptC p) 51)) rfl _ _ rfl n _ _ rfl rfl rfl rfl (by omega) ?_; intro w2 hown hbel hsz2; simp only [World.size_alloc] at hown; have hb2 := Below.step (Below.alloc1 w (.cells (ptC p) 51)) (hbel.mono (Nat.le_refl _)))
  have HOWN := Lib.hid hown; have HB2 := Lib.hid hb2
  clear hown hb2 hbel hsz2
  go_loopw [12] (fun i wr => ∃ k : Nat, k ≤ n ∧ i = .int .i64 k ∧ Own (w.heap.size + 1) wr (.slice (some ⟨w.heap.size + 1, 0, none⟩) n n) (tellK n g k) ∧ Below w.heap.size w wr) (fun i _ => n - (intOf i).toNat)
  case atStart => exact ⟨0, by omega, rfl, by rw [HT0.out]; exact HOWN.out, HB2.out⟩
  case round =>
    obtain ⟨k, hk, rfl, hown, hbel⟩ := hrel
    clear HOWN HB2
    by_cases hlt : k < n
    · have HN := Lib.hid (tellK_set n g k hlt)
      have HL := Lib.hid (tellK_length n g k hk)
      have HO := Lib.hid hown; have HB := Lib.hid hbel
      have hgk := fun w => HG.out k w hlt
      generalize g k = y at HN hgk
      have HGK := Lib.hid hgk
      clear hown hbel hgk
      go_wp2_with (first
        | (go_at_call 72; (with_reducible refine (HGK.out _).mono ?_); rintro e w3 ⟨rfl, hb3⟩; have ho3 := HO.out.below hb3; have hdst := ho3.cellAt k (by rw [HL.out]; omega); have hfr := ho3.frozenAt k; have hnew := ho3.stored k y; rw [HN.out] at hnew; have HW := Lib.hid hnew; have HB3 := Lib.hid ((Below.step HB.out hb3).setCell (p := ⟨w.heap.size + 1, k, none⟩) (by simp) (.int .i64 y)); generalize (tellK n g k).getD k 0 = z at hdst; clear hb3 ho3 hnew))
      go_roundw
      case rel => exact ⟨k + 1, by omega, by go_num, HW.out, HB3.out⟩
      case measure => simp [intOf]; omega
    · obtain rfl : k = n := by omega
      go_wp2
      go_ret
      exact ⟨_, rfl, by rw [tellK_all] at hown; exact hown.mono (by omega), hbel⟩



set_option maxHeartbeats 2000000 in
theorem row_par (p : List Int) (g : Nat → Int) (bv : Value) (w : World) (hp : p.length ≤ 12) (hg : ∀ (k : Nat) (w : World), k < p.length → Calls Try.prog 67 #[bv, .int .i64 k] w (IntOut w (g k))) :
    Calls Try.prog 41 #[.agg (ptC p), .func (.func 67) #[bv] #[]] w (Made w (tellL p.length g)) := by
  have hpt : PtIn (w.alloc (.cells (ptC p) 51)) w.heap.size p := heap_alloc_new w _
  have hsz := hpt.size hp
  obtain ⟨n, hn⟩ : ∃ n, n = p.length := ⟨_, rfl⟩
  rw [← hn] at hsz hp hg ⊢
  have HG := Lib.hid hg
  have HT0 := Lib.hid (tellK_zero n g)
  clear hpt hn hg
  go_enter Try.func41, Try.ntmps41
  go_wp2_with (at_make; refine wp_make (w.alloc (.cells (ptC p) 51)) rfl _ _ rfl n _ _ rfl rfl rfl rfl (by omega) ?_; intro w2 hown hbel hsz2; simp only [World.size_alloc] at hown; have hb2 := Below.step (Below.alloc1 w (.cells (ptC p) 51)) (hbel.mono (Nat.le_refl _)))
  have HOWN := Lib.hid hown; have HB2 := Lib.hid hb2
  clear hown hb2 hbel hsz2
  go_loopw [12] (fun i wr => ∃ k : Nat, k ≤ n ∧ i = .int .i64 k ∧ Own (w.heap.size + 1) wr (.slice (some ⟨w.heap.size + 1, 0, none⟩) n n) (tellK n g k) ∧ Below w.heap.size w wr) (fun i _ => n - (intOf i).toNat)
  case atStart => exact ⟨0, by omega, rfl, by rw [HT0.out]; exact HOWN.out, HB2.out⟩
  case round =>
    obtain ⟨k, hk, rfl, hown, hbel⟩ := hrel
    clear HOWN HB2
    by_cases hlt : k < n
    · have HN := Lib.hid (tellK_set n g k hlt)
      have HL := Lib.hid (tellK_length n g k hk)
      have HO := Lib.hid hown; have HB := Lib.hid hbel
      have hgk := fun w => HG.out k w hlt
      generalize g k = y at HN hgk
      have HGK := Lib.hid hgk
      clear hown hbel hgk
      go_wp2_with (first
        | (go_at_call 67; (with_reducible refine (HGK.out _).mono ?_); rintro e w3 ⟨rfl, hb3⟩; have ho3 := HO.out.below hb3; have hdst := ho3.cellAt k (by rw [HL.out]; omega); have hfr := ho3.frozenAt k; have hnew := ho3.stored k y; rw [HN.out] at hnew; have HW := Lib.hid hnew; have HB3 := Lib.hid ((Below.step HB.out hb3).setCell (p := ⟨w.heap.size + 1, k, none⟩) (by simp) (.int .i64 y)); generalize (tellK n g k).getD k 0 = z at hdst; clear hb3 ho3 hnew))
      go_roundw
      case rel => exact ⟨k + 1, by omega, by go_num, HW.out, HB3.out⟩
      case measure => simp [intOf]; omega
    · obtain rfl : k = n := by omega
      go_wp2
      go_ret
      exact ⟨_, rfl, by rw [tellK_all] at hown; exact hown.mono (by omega), hbel⟩

set_option maxHeartbeats 2000000 in
theorem row_fol (p : List Int) (g : Nat → Int) (bv : Value) (w : World) (hp : p.length ≤ 12) (hg : ∀ (k : Nat) (w : World), k < p.length → Calls Try.prog 42 #[bv, .int .i64 k] w (IntOut w (g k))) :
    Calls Try.prog 41 #[.agg (ptC p), .func (.func 42) #[bv] #[]] w (Made w (tellL p.length g)) := by
  have hpt : PtIn (w.alloc (.cells (ptC p) 51)) w.heap.size p := heap_alloc_new w _
  have hsz := hpt.size hp
  obtain ⟨n, hn⟩ : ∃ n, n = p.length := ⟨_, rfl⟩
  rw [← hn] at hsz hp hg ⊢
  have HG := Lib.hid hg
  have HT0 := Lib.hid (tellK_zero n g)
  clear hpt hn hg
  go_enter Try.func41, Try.ntmps41
  go_wp2_with (at_make; refine wp_make (w.alloc (.cells (ptC p) 51)) rfl _ _ rfl n _ _ rfl rfl rfl rfl (by omega) ?_; intro w2 hown hbel hsz2; simp only [World.size_alloc] at hown; have hb2 := Below.step (Below.alloc1 w (.cells (ptC p) 51)) (hbel.mono (Nat.le_refl _)))
  have HOWN := Lib.hid hown; have HB2 := Lib.hid hb2
  clear hown hb2 hbel hsz2
  go_loopw [12] (fun i wr => ∃ k : Nat, k ≤ n ∧ i = .int .i64 k ∧ Own (w.heap.size + 1) wr (.slice (some ⟨w.heap.size + 1, 0, none⟩) n n) (tellK n g k) ∧ Below w.heap.size w wr) (fun i _ => n - (intOf i).toNat)
  case atStart => exact ⟨0, by omega, rfl, by rw [HT0.out]; exact HOWN.out, HB2.out⟩
  case round =>
    obtain ⟨k, hk, rfl, hown, hbel⟩ := hrel
    clear HOWN HB2
    by_cases hlt : k < n
    · have HN := Lib.hid (tellK_set n g k hlt)
      have HL := Lib.hid (tellK_length n g k hk)
      have HO := Lib.hid hown; have HB := Lib.hid hbel
      have hgk := fun w => HG.out k w hlt
      generalize g k = y at HN hgk
      have HGK := Lib.hid hgk
      clear hown hbel hgk
      go_wp2_with (first
        | (go_at_call 42; (with_reducible refine (HGK.out _).mono ?_); rintro e w3 ⟨rfl, hb3⟩; have ho3 := HO.out.below hb3; have hdst := ho3.cellAt k (by rw [HL.out]; omega); have hfr := ho3.frozenAt k; have hnew := ho3.stored k y; rw [HN.out] at hnew; have HW := Lib.hid hnew; have HB3 := Lib.hid ((Below.step HB.out hb3).setCell (p := ⟨w.heap.size + 1, k, none⟩) (by simp) (.int .i64 y)); generalize (tellK n g k).getD k 0 = z at hdst; clear hb3 ho3 hnew))
      go_roundw
      case rel => exact ⟨k + 1, by omega, by go_num, HW.out, HB3.out⟩
      case measure => simp [intOf]; omega
    · obtain rfl : k = n := by omega
      go_wp2
      go_ret
      exact ⟨_, rfl, by rw [tellK_all] at hown; exact hown.mono (by omega), hbel⟩

theorem placeW (n k : Nat) (h : k < n) : (n : Int) - 1 - (k : Int) = ((n - 1 - k : Nat) : Int) := by omega

set_option maxHeartbeats 1000000 in
theorem parity_any (p b : List Int) (x i : Nat) (w : World) (hp : p.length ≤ 12) (hb : b.length = 12) (hx : x < 12) (hi : b.getD x 0 = (i : Int)) :
    Calls Try.prog 67 #[.agg (wdC p b), .int .i64 x] w (IntOut w ((i % 2 : Nat) : Int)) := by
  have hw : WdIn (w.alloc (.cells (wdC p b) 53)) w.heap.size p b := heap_alloc_new w _
  have c1 := hw.idx hp hb x hx
  rw [hi] at c1
  have e : (i : Int).tmod 2 = ((i % 2 : Nat) : Int) := by rw [Int.tmod_eq_emod_of_nonneg (by omega)]; omega
  clear hw hi
  go_enter Try.func67, Try.ntmps67
  go_wp2
  go_ret
  exact ⟨by simp, Below.alloc1 _ _⟩

end Go.Proofs.Ytkohmdhjjnmfgab
