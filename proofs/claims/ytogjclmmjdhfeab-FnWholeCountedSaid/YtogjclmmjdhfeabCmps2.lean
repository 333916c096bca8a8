/- The laws' comparison of slices of pairs, and their sums. -/
import Derived.Test.YtogjclmmjdhfeabCmps
import Derived.Test.YtogjclmmjdhfeabMeS
import Derived.Deep.RegionHeld3
namespace Go.Proofs.Ytogjclmmjdhfeab
open Go.RowKit
set_option linter.unusedSimpArgs false
set_option linter.unusedVariables false

theorem yPair_ok (u1 u2 v1 v2 : Value) (t b : List Int) (w : World) (h1 : Rd w u1 t) (h2 : Rd w u2 b) (g1 : Rd w v1 t) (g2 : Rd w v2 b) : Calls Try.prog 18 #[.agg #[u1, u2], .agg #[v1, v2]] w (Good w) :=
  yPair_yes t b t b u1 u2 v1 v2 w h1 h2 g1 g2 rfl rfl
set_option maxHeartbeats 2000000 in
theorem yPairs_yes (b1 b2 n : Nat) (v1 v2 : Value) (vs1 vs2 : List Value) (ls : List (List Int)) (w : World) (h1 : RdML b1 w v1 n vs1 ls) (h2 : RdML b2 w v2 n vs2 ls) :
    Calls Try.prog 68 #[v1, v2] w (Good w) := by
  obtain ⟨a1, c1, rfl, hlc1, hcm1⟩ := h1.form
  obtain ⟨a2, c2, rfl, hlc2, hcm2⟩ := h2.form
  unfold maxLen at hcm1 hcm2
  have HN := Lib.hid h1.two; have H1 := Lib.hid h1; have H2 := Lib.hid h2
  clear h1 h2
  go_enter Try.func68, Try.ntmps68
  go_wp2
  go_loopw [13] (fun i wr => ∃ j : Nat, j ≤ n ∧ i = .int .i64 (j : Int) ∧ RdML b1 wr (.slice a1 n c1) n vs1 ls ∧ RdML b2 wr (.slice a2 n c2) n vs2 ls ∧ Below w.heap.size w wr) (fun i _ => n - (intOf i).toNat)
  case atStart => exact ⟨0, by omega, rfl, H1.out, H2.out, Below.refl _ _⟩
  case round =>
    obtain ⟨j, hj, rfl, ho1, ho2, hwi⟩ := hrel
    clear H1 H2
    by_cases hlt : j < n
    · have hj0 : j * 2 < ls.length := by rw [HN.out]; omega
      have hj1 : j * 2 + 1 < ls.length := by rw [HN.out]; omega
      obtain ⟨g1, rfl, hcell1, _⟩ := ho1.at (by omega)
      obtain ⟨g2, rfl, hcell2, _⟩ := ho2.at (by omega)
      have hc1 := hcell1 (j * 2) (by omega)
      have hc2 := hcell2 (j * 2) (by omega)
      have hd1 := hcell1 (j * 2 + 1) (by omega)
      have hd2 := hcell2 (j * 2 + 1) (by omega)
      have hr1 := (ho1.own _ hj0).rd
      have hr2 := (ho2.own _ hj0).rd
      have hs1 := (ho1.own _ hj1).rd
      have hs2 := (ho2.own _ hj1).rd
      generalize ls.getD (j * 2) [] = t at hr1 hr2
      generalize ls.getD (j * 2 + 1) [] = b at hs1 hs2
      generalize rowV vs1 (j * 2) = p1 at hc1 hr1
      generalize rowV vs2 (j * 2) = p2 at hc2 hr2
      generalize rowV vs1 (j * 2 + 1) = q1 at hd1 hs1
      generalize rowV vs2 (j * 2 + 1) = q2 at hd2 hs2
      have HO1 := Lib.hid ho1; have HO2 := Lib.hid ho2; have HWI := Lib.hid hwi; have HR1 := Lib.hid hr1; have HR2 := Lib.hid hr2; have HS1 := Lib.hid hs1; have HS2 := Lib.hid hs2
      clear hcell1 hcell2 ho1 ho2 hwi hr1 hr2 hs1 hs2 hj0 hj1
      go_wp2_with fail
      generalize wr = wa at *
      go_region_held3 (fun w' => Hid (Below wa.heap.size wa w') ∧ w'.cell? ⟨g1, j * 2, none⟩ = some p1 ∧ w'.cell? ⟨g1, j * 2 + 1, none⟩ = some q1 ∧ w'.cell? ⟨g2, j * 2, none⟩ = some p2 ∧ w'.cell? ⟨g2, j * 2 + 1, none⟩ = some q2)
        (first | assumption | exact held4_start hc1 hd1 hc2 hd2 | exact held4_keep (by assumption) (by assumption))
        (first
          | (go_at_call 18; ((refine (yPair_ok _ _ _ _ t b _ (HR1.out.below (Below.drew (Below.refl _ _))) (HS1.out.below (Below.drew (Below.refl _ _))) (HR2.out.below (Below.drew (Below.refl _ _))) (HS2.out.below (Below.drew (Below.refl _ _)))).mono ?_); rintro e' w' ⟨rfl, hb'⟩)))
      have hb : Below wa.heap.size wa w' := held4_out (by assumption)
      go_wp2_with fail
      go_roundw
      case rel => exact ⟨j + 1, by omega, by go_num, HO1.out.below hb, HO2.out.below hb, Below.step HWI.out hb⟩
      case measure => simp [intOf]; omega
    · obtain rfl : j = n := by omega
      go_wp2
      go_ret
      exact ⟨rfl, hwi⟩
theorem sum_take (l : List Int) (k : Nat) (h : k < l.length) : (l.take (k + 1)).sum = (l.take k).sum + l.getD k 0 := by
  rw [List.take_succ_eq_append_getElem h, List.sum_append]
  simp [List.getD, h]
set_option maxHeartbeats 1000000 in
theorem ySum_any (v : Value) (l : List Int) (w : World) (h : Rd w v l) (hb : ∀ k, k ≤ l.length → -4611686018427387904 ≤ (l.take k).sum ∧ (l.take k).sum ≤ 4611686018427387904) :
    Calls Try.prog 73 #[v] w fun e w' => e = .returned (.int .i64 l.sum) ∧ Below w.heap.size w w' := by
  obtain ⟨a1, c1, rfl, hlc1, hcm1, _, hrd1⟩ := h
  unfold maxLen at hcm1
  have HB := Lib.hid hb; have HR1 := Lib.hid hrd1; have HS := Lib.hid (fun k => sum_take l k)
  have hfin : (l.take l.length).sum = l.sum := by rw [List.take_length]
  have HF := Lib.hid hfin
  clear hb hrd1 hfin
  go_enter Try.func73, Try.ntmps73
  go_wp2
  go_loop [3, 8] (fun s i => ∃ k : Nat, k ≤ l.length ∧ i = .int .i64 (k : Int) ∧ s = .int .i64 (l.take k).sum) (fun _ i => l.length - (intOf i).toNat)
  case atStart => exact ⟨0, by omega, rfl, by simp⟩
  case round =>
    obtain ⟨k, hk, rfl, rfl⟩ := hrel
    by_cases hlt : k < l.length
    · rcases HR1.out with h0 | ⟨b1, off1, rfl, hcell1⟩
      · exfalso; rw [h0] at hlt; simp at hlt
      have hc1 := hcell1 k hlt
      have h1 := HB.out k hk
      have h2 := HB.out (k + 1) hlt
      have hs := HS.out k hlt
      have hlt2 : (k : Int) < (l.length : Int) := by omega
      have hwk : IntKind.i64.wrap ((k : Int) + 1) = (k : Int) + 1 := IntWalk.i64_in _ (by omega)
      rw [hs] at h2
      have HST := Lib.hid hs
      clear hcell1 hs
      generalize l.getD k 0 = x at *
      generalize (l.take k).sum = s at *
      have hws : IntKind.i64.wrap (s + x) = s + x := IntWalk.i64_in _ (by omega)
      go_wp2
      go_round
      case rel => exact ⟨k + 1, by omega, by go_num, by rw [HST.out]⟩
      case measure => simp [intOf]; omega
    · obtain rfl : k = l.length := by omega
      have hlt2 : ¬ (l.length : Int) < (l.length : Int) := by omega
      rw [HF.out]
      go_wp2
      go_ret
      exact ⟨rfl, Below.refl _ _⟩

end Go.Proofs.Ytogjclmmjdhfeab
