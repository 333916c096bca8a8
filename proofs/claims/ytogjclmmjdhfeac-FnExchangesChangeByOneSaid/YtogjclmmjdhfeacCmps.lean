/- The laws' comparisons of rows and of pairs. -/
import Derived.Test.YtogjclmmjdhfeacShift
import Derived.Test.YtogjclmmjdhfeacListsLaw
import Derived.Test.YtogjclmmjdhfeacMeander
namespace Go.Proofs.Ytogjclmmjdhfeac
open Go.RowKit
set_option linter.unusedSimpArgs false
set_option linter.unusedVariables false

set_option maxHeartbeats 1000000 in
theorem sSameRows_yes (b1 e1 b2 e2 : Nat) (v1 v2 : Value) (vs1 vs2 : List Value) (ls : List (List Int)) (w : World) (h1 : OwnLL b1 e1 w v1 vs1 ls) (h2 : OwnLL b2 e2 w v2 vs2 ls) :
    Calls Try.prog 17 #[v1, v2] w (Good w) := by
  obtain ⟨a1, c1, rfl, hlc1, hcm1⟩ := h1.form
  obtain ⟨a2, c2, rfl, hlc2, hcm2⟩ := h2.form
  unfold maxLen at hcm1 hcm2
  obtain ⟨n, hn⟩ : ∃ n, n = ls.length := ⟨_, rfl⟩
  rw [← hn] at hlc1 hlc2 h1 h2 ⊢
  have HN := Lib.hid hn; have H1 := Lib.hid h1; have H2 := Lib.hid h2
  clear hn h1 h2
  go_enter Try.func17, Try.ntmps17
  go_wp2
  go_loopw [13] (fun i wr => ∃ j : Nat, j ≤ n ∧ i = .int .i64 (j : Int) ∧ OwnLL b1 e1 wr (.slice a1 n c1) vs1 ls ∧ OwnLL b2 e2 wr (.slice a2 n c2) vs2 ls ∧ Below w.heap.size w wr) (fun i _ => n - (intOf i).toNat)
  case atStart => exact ⟨0, by omega, rfl, H1.out, H2.out, Below.refl _ _⟩
  case round =>
    obtain ⟨j, hj, rfl, ho1, ho2, hwi⟩ := hrel
    clear H1 H2
    by_cases hlt : j < n
    · have hjl : j < ls.length := by rw [← HN.out]; exact hlt
      obtain ⟨g1, rfl, _, _, hcell1, _⟩ := ho1.at (by omega)
      obtain ⟨g2, rfl, _, _, hcell2, _⟩ := ho2.at (by omega)
      have hc1 := hcell1 j hjl
      have hc2 := hcell2 j hjl
      have hr1 := (ho1.own j hjl).rd
      have hr2 := (ho2.own j hjl).rd
      generalize ls.getD j [] = l at hr1 hr2
      generalize rowV vs1 j = p1 at hc1 hr1
      generalize rowV vs2 j = p2 at hc2 hr2
      have HO1 := Lib.hid ho1; have HO2 := Lib.hid ho2; have HWI := Lib.hid hwi; have HR1 := Lib.hid hr1; have HR2 := Lib.hid hr2
      clear hcell1 hcell2 ho1 ho2 hwi hr1 hr2
      go_wp2
      generalize wr = wa at *
      go_quiet ((go_at_call 20; exact Calls.quiet_of (sSame_run p1 p2 l l true _ (Rd.drewN HR1.out _) (Rd.drewN HR2.out _) (decide_eq_true rfl))))
      go_wp2
      go_roundw
      case rel => exact ⟨j + 1, by omega, by go_num, HO1.out.below (below_drewN (Below.refl _ _) _), HO2.out.below (below_drewN (Below.refl _ _) _), Below.step HWI.out (below_drewN (Below.refl _ _) _)⟩
      case measure => simp [intOf]; omega
    · obtain rfl : j = n := by omega
      go_wp2
      go_ret
      exact ⟨rfl, hwi⟩
set_option maxHeartbeats 1000000 in
theorem sSamePair_yes (t b t' b' : List Int) (u1 u2 v1 v2 : Value) (w : World) (h1 : Rd w u1 t) (h2 : Rd w u2 b) (h3 : Rd w v1 t') (h4 : Rd w v2 b') (e1 : t = t') (e2 : b = b') :
    Calls Try.prog 19 #[.agg #[u1, u2], .agg #[v1, v2]] w (Tells w true) := by
  have B2 : Below w.heap.size w ((w.alloc (.cells #[u1, u2] 26)).alloc (.cells #[v1, v2] 26)) := Below.step (Below.alloc1 _ _) (Below.alloc1 _ _)
  have H1 := Lib.hid (sSame_yes u1 v1 t t' _ (h1.below B2) (h3.below B2) e1)
  have H2 := Lib.hid (fun w1 (hb : Below w.heap.size w w1) => sSame_yes u2 v2 b b' w1 (h2.below hb) (h4.below hb) e2)
  have HA := Lib.hid (Box2.below (Box2.new 26 w u1 u2) (Below.alloc1 _ (.cells #[v1, v2] 26)))
  have hB := Box2.new 26 (w.alloc (.cells #[u1, u2] 26)) v1 v2
  rw [World.size_alloc] at hB
  have HB := Lib.hid hB
  clear hB
  obtain ⟨a1, c1, rfl, _⟩ := h1
  obtain ⟨a2, c2, rfl, _⟩ := h2
  obtain ⟨a3, c3, rfl, _⟩ := h3
  obtain ⟨a4, c4, rfl, _⟩ := h4
  have HBB := Lib.hid B2
  clear e1 e2 B2
  have k0 := HA.out.c0; have k1 := HB.out.c0
  go_enter Try.func19, Try.ntmps19
  go_wp2_with fail
  refine H1.out.mono ?_
  rintro e w1 ⟨rfl, hb⟩
  have HB1 := Lib.hid (Below.step HBB.out hb)
  have k2 := (HA.out.below hb).c1; have k3 := (HB.out.below hb).c1
  clear hb k0 k1
  go_wp2_with fail
  refine (H2.out w1 HB1.out).mono ?_
  rintro e w2 ⟨rfl, hb⟩
  have HB2 := Lib.hid (Below.step HB1.out hb)
  clear hb
  go_wp2_with fail
  go_ret
  exact ⟨rfl, HB2.out⟩

end Go.Proofs.Ytogjclmmjdhfeac
