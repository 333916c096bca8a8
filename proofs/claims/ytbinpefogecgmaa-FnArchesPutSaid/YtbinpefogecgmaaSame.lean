/- The laws' comparisons of lists. -/
import Derived.Test.YtbinpefogecgmaaShift
namespace Go.Proofs.Ytbinpefogecgmaa
open Go.RowKit
set_option linter.unusedSimpArgs false
set_option linter.unusedVariables false

set_option maxHeartbeats 1000000 in
theorem sSame_run (v1 v2 : Value) (l1 l2 : List Int) (R : Bool) (w : World) (h1 : Rd w v1 l1) (h2 : Rd w v2 l2) (hR : decide (l1 = l2) = R) :
    Calls Try.prog 13 #[v1, v2] w (Tells0 w R) := by
  obtain ⟨a1, c1, rfl, hlc1, hcm1, _, hrd1⟩ := h1
  obtain ⟨a2, c2, rfl, hlc2, hcm2, _, hrd2⟩ := h2
  unfold maxLen at hcm1 hcm2
  by_cases hlen : l1.length = l2.length
  · have hall : allFrom (fun i => decide (l1.getD i 0 = l2.getD i 0)) 0 l1.length = R := by
      rw [← hR, Bool.eq_iff_iff, decide_eq_true_iff]
      constructor
      · exact list_eq_of hlen
      · rintro rfl
        exact (allFrom_iff _ _ _).2 fun i _ _ => by simp
    obtain ⟨n, hn⟩ : ∃ n, n = l1.length := ⟨_, rfl⟩
    have hn2 : n = l2.length := by omega
    rw [← hn] at hrd1 hlc1 hall ⊢
    rw [← hn2] at hrd2 hlc2 ⊢
    have HN := Lib.hid hn; have HN2 := Lib.hid hn2
    have HR1 := Lib.hid hrd1; have HR2 := Lib.hid hrd2; have HA := Lib.hid hall
    clear hrd1 hrd2 hn hn2 hall hR hlen
    go_enter Try.func13, Try.ntmps13
    go_wp2
    go_loopw [13] (fun i wr => ∃ k q : Nat, k ≤ n ∧ i = .int .i64 k ∧ wr = w.drewN q ∧ Hid (allFrom (fun i => decide (l1.getD i 0 = l2.getD i 0)) k (n - k) = R)) (fun i _ => n - (intOf i).toNat)
    case atStart => exact ⟨0, 0, by omega, rfl, rfl, HA.out⟩
    case round =>
      obtain ⟨k, q, hk, rfl, rfl, HK⟩ := hrel
      clear HA
      by_cases hlt : k < n
      · rcases HR1.out with h0 | ⟨b1, off1, rfl, hcell1⟩
        · exfalso; rw [HN.out, h0] at hlt; simp at hlt
        rcases HR2.out with h0 | ⟨b2, off2, rfl, hcell2⟩
        · exfalso; rw [HN2.out, h0] at hlt; simp at hlt
        have hc1 := hcell1 k hlt
        have hc2 := hcell2 k hlt
        have hK := HK.out
        rw [show n - k = (n - (k + 1)) + 1 by omega] at hK
        clear hcell1 hcell2 HK
        by_cases he : l1.getD k 0 = l2.getD k 0
        · have HK := Lib.hid (allFrom_yes hK (decide_eq_true he)); clear hK
          rw [← he] at hc2
          generalize l1.getD k 0 = x at hc1 hc2
          clear he
          go_wp2
          go_quiet (fail)
          go_wp2
          go_roundw
          case rel => exact ⟨k + 1, _, by omega, by go_num, rfl, HK.out⟩
          case measure => simp [intOf]; omega
        · have HK := Lib.hid (allFrom_no hK (decide_eq_false he)); clear hK
          generalize l1.getD k 0 = x at hc1 he
          generalize l2.getD k 0 = y at hc2 he
          have hxy : (x != y) = true := by simpa using he
          clear he
          go_wp2
          go_quiet (fail)
          go_wp2
          go_ret
          exact ⟨by rw [HK.out]; rfl, _, World.drewN_drewN ..⟩
      · obtain rfl : k = n := by omega
        go_wp2
        go_ret
        have hK := HK.out
        rw [Nat.sub_self] at hK
        exact ⟨by rw [← hK]; rfl, _, rfl⟩
  · have hf : R = false := by rw [← hR, decide_eq_false_iff_not]; intro h; exact hlen (by rw [h])
    subst hf
    generalize l1.length = n1 at *
    generalize l2.length = n2 at *
    have hne : ((n1 : Int) != (n2 : Int)) = true := by simp; omega
    clear hrd1 hrd2 hlen hR
    go_enter Try.func13, Try.ntmps13
    go_wp2
    go_ret
    exact ⟨rfl, 0, rfl⟩
theorem sSame_yes (v1 v2 : Value) (l1 l2 : List Int) (w : World) (h1 : Rd w v1 l1) (h2 : Rd w v2 l2) (h : l1 = l2) :
    Calls Try.prog 13 #[v1, v2] w (Tells w true) :=
  (sSame_run v1 v2 l1 l2 true w h1 h2 (decide_eq_true h)).mono fun _ _ h => h.below

end Go.Proofs.Ytbinpefogecgmaa
