/- readWord, at any list. -/
import Derived.Test.YtkohmdhjjnmfgabWdRead
namespace Go.Proofs.Ytkohmdhjjnmfgab
open Go.RowKit
set_option linter.unusedSimpArgs false
set_option linter.unusedVariables false

def selL (R : Bool) (l : List Int) : List Int := if R then l else []
def selI (R : Bool) (l : List Int) : List Int := if R then idxW l else zero12
theorem selL_yes (l : List Int) : selL true l = l := rfl
theorem selL_no (l : List Int) : selL false l = [] := rfl
theorem selI_yes (l : List Int) : selI true l = idxK l l.length := rfl
theorem selI_no (l : List Int) : selI false l = zero12 := rfl

set_option maxHeartbeats 4000000 in
theorem readWord_run (v : Value) (l : List Int) (R1 R2 : Bool) (w : World) (h : Rd w v l) (h12 : l.length ≤ 12) (hR1 : rangeB l = R1) (hR2 : R1 = true → allFrom (fun i => decide ((idxK l l.length).getD (l.getD i 0).toNat 0 = (i : Int))) 0 l.length = R2) :
    Calls Try.prog 49 #[v] w (WdOut w (selL (R1 && R2) l) (selI (R1 && R2) l) (R1 && R2)) := by
  have hin : R1 = true → InRange l := fun e => (range_in l).1 (hR1.trans e)
  unfold rangeB at hR1
  have hal := atK_all l
  have h0 := h
  obtain ⟨a, c, rfl, hlc, hcm, hnc, hrd⟩ := h
  obtain ⟨n, hn⟩ : ∃ n, n = l.length := ⟨_, rfl⟩
  rw [← hn] at hlc h12 h0 hR1 hR2 hal ⊢
  unfold maxLen at hcm
  have HN := Lib.hid hn; clear hn hrd hnc
  have H0 := Lib.hid h0; clear h0
  have HR := Lib.hid hR1; clear hR1
  have HR2 := Lib.hid hR2; clear hR2
  have HIN := Lib.hid hin; clear hin
  have HAL := Lib.hid hal; clear hal
  have h0 := wd_new0 w
  have B1 : Below w.heap.size w (w.alloc (.cells #[.int .i64 0, .int .i64 0, .int .i64 0, .int .i64 0, .int .i64 0, .int .i64 0, .int .i64 0, .int .i64 0, .int .i64 0, .int .i64 0, .int .i64 0, .int .i64 0, .int .i64 0, .int .i64 0, .int .i64 0, .int .i64 0, .int .i64 0, .int .i64 0, .int .i64 0, .int .i64 0, .int .i64 0, .int .i64 0, .int .i64 0, .int .i64 0, .int .i64 0] 53)) := Below.alloc1 w _
  have h1 := wd_new0 (w.alloc (.cells #[.int .i64 0, .int .i64 0, .int .i64 0, .int .i64 0, .int .i64 0, .int .i64 0, .int .i64 0, .int .i64 0, .int .i64 0, .int .i64 0, .int .i64 0, .int .i64 0, .int .i64 0, .int .i64 0, .int .i64 0, .int .i64 0, .int .i64 0, .int .i64 0, .int .i64 0, .int .i64 0, .int .i64 0, .int .i64 0, .int .i64 0, .int .i64 0, .int .i64 0] 53))
  have B2 := Below.step B1 (Below.alloc1 _ (.cells #[.int .i64 0, .int .i64 0, .int .i64 0, .int .i64 0, .int .i64 0, .int .i64 0, .int .i64 0, .int .i64 0, .int .i64 0, .int .i64 0, .int .i64 0, .int .i64 0, .int .i64 0, .int .i64 0, .int .i64 0, .int .i64 0, .int .i64 0, .int .i64 0, .int .i64 0, .int .i64 0, .int .i64 0, .int .i64 0, .int .i64 0, .int .i64 0, .int .i64 0] 53))
  have h2 := h0.below (Below.alloc1 _ (.cells #[.int .i64 0, .int .i64 0, .int .i64 0, .int .i64 0, .int .i64 0, .int .i64 0, .int .i64 0, .int .i64 0, .int .i64 0, .int .i64 0, .int .i64 0, .int .i64 0, .int .i64 0, .int .i64 0, .int .i64 0, .int .i64 0, .int .i64 0, .int .i64 0, .int .i64 0, .int .i64 0, .int .i64 0, .int .i64 0, .int .i64 0, .int .i64 0, .int .i64 0] 53))
  rw [World.size_alloc] at h1
  have H2 := Lib.hid h2; have HB2 := Lib.hid B2; have H1 := Lib.hid h1
  have hz := zero12_length
  obtain ⟨R, hR⟩ : ∃ R, (R1 && R2) = R := ⟨_, rfl⟩
  rw [hR]
  have HRR := Lib.hid hR; clear hR
  clear h2 B1 B2 h0 h1
  have h12' : ¬ 12 < (n : Int) := by omega
  go_enter Try.func49, Try.ntmps49
  go_wp2_with (refine wp_storeWdN rfl (.tmp 4) (.tmp 16) rfl (w.heap.size + 1) n h12 rfl rfl H1.out ?_; intro w1 hs1 hg1; have hs2 := H2.out.grown hg1 (by omega); have hb2 : Below w.heap.size w w1 := HB2.out.grown hg1 (by simp; omega) (by intro k hk; simp at hk; omega); have hrd1 := H0.out.below hb2; have HS1 := Lib.hid hs1; have HS2 := Lib.hid hs2; have HBB := Lib.hid hb2; have HRD1 := Lib.hid hrd1; clear hg1 hs1 hs2 hb2 hrd1)
  generalize hG : w.heap.size + 1 = g at *
  have hgn : w.heap.size ≠ g := by omega
  have hgle : w.heap.size ≤ g := by omega
  have hlen : (List.replicate n (0 : Int)).length = n := by simp
  have hzl : zero12 = idxK l 0 := rfl
  have hal0 : List.replicate n (0 : Int) = atK l 0 := by rw [atK, ← HN.out]
  clear H1 H2 HB2
  go_loopw [19] (fun i wr => ∃ k : Nat, k ≤ n ∧ i = .int .i64 k ∧ Hid (allFrom (fun i => inB (l.getD i 0) 0 ((n : Int) - 1)) k (n - k) = R1) ∧ WdIn wr g (atK l k) (idxK l k) ∧ WdIn wr w.heap.size [] zero12 ∧ Below w.heap.size w wr) (fun i _ => n - (intOf i).toNat)
  case atStart => exact ⟨0, by omega, rfl, HR.out, by rw [← hal0, ← hzl]; exact HS1.out, HS2.out, HBB.out⟩
  case round =>
    obtain ⟨k, hk, rfl, HK, hs1, hs2, hbel⟩ := hrel
    clear HR HS1 HS2 HBB HRD1
    have hl1 : (atK l k).length = n := by rw [atK_length, ← HN.out]
    have hl2 := idxK_length l k
    have hsz := hs1.size (by omega)
    rw [hl1] at hsz
    by_cases hlt : k < n
    · obtain ⟨b1, o1, c1', e1, _, _, hcl⟩ := (H0.out.below hbel).at (by rw [← HN.out]; omega)
      simp only [Value.slice.injEq, true_and] at e1
      obtain ⟨rfl, e2, rfl⟩ := e1
      have hck := hcl k (by rw [← HN.out]; exact hlt)
      have hK := HK.out
      rw [show n - k = (n - (k + 1)) + 1 by omega] at hK
      have HAK : Hid ((atK l k).set k (l.getD k 0) = atK l (k + 1) ∧ (idxK l k).set (l.getD k 0).toNat (k : Int) = idxK l (k + 1)) := ⟨rfl, rfl⟩
      have HS1 := Lib.hid hs1; have HS2 := Lib.hid hs2; have HB := Lib.hid hbel
      clear HK hcl hs1 hs2 hbel e2
      by_cases hb : 0 ≤ l.getD k 0 ∧ l.getD k 0 < n
      · have HK := Lib.hid (allFrom_yes hK (by unfold inB; exact decide_eq_true (by omega)))
        obtain ⟨x, hx⟩ : ∃ x : Nat, l.getD k 0 = (x : Int) := ⟨(l.getD k 0).toNat, by omega⟩
        rw [hx] at hck HAK hb
        rw [Int.toNat_natCast] at HAK
        have hxn : x < n := by omega
        clear hK hb hx
        have hput := fun w h => put_any g k x (atK l k) (idxK l k) w h (by omega) hl2 (by omega) (by omega)
        have HP := Lib.hid hput; clear hput
        have hL1 := Lib.hid hl1; clear hl1
        have hL2 := Lib.hid hl2; clear hl2
        go_wp2_with (go_at_call 64; refine (HP.out _ HS1.out).mono ?_; rintro e w2 ⟨rfl, hp1, hgr⟩; rw [HAK.out.1, HAK.out.2] at hp1; have HP1 := Lib.hid hp1; have HP2 := Lib.hid (HS2.out.grown hgr hgn); have HB2 := Lib.hid (HB.out.grown hgr HB.out.size (by intro k hk; simp at hk; omega)); clear hp1 hgr)
        go_roundw
        case rel => exact ⟨k + 1, by omega, by go_num, HK, HP1.out, HP2.out, HB2.out⟩
        case measure => simp [intOf]; omega
      · have hR1 := allFrom_no hK (by unfold inB; exact decide_eq_false (by omega))
        subst hR1
        have hRR := HRR.out
        rw [Bool.false_and] at hRR
        subst hRR
        clear hK HRR HR2 HIN HAK
        rw [selL_no, selI_no]
        generalize l.getD k 0 = x at hck hb
        have HL1 := Lib.hid hl1; clear hl1
        have HL2 := Lib.hid hl2; clear hl2
        go_wp2_with ((refine wp_storeWd0 rfl (.tmp 2) (.tmp 33) rfl w.heap.size [] zero12 (Nat.zero_le _) hz rfl rfl HS2.out ?_); intro w3 hs3 hg3)
        all_goals exact bodyPost_ret (results_rwd _ _ w.heap.size [] zero12 false (by simp) hz hs3 rfl rfl) rfl ⟨rfl, HB.out.grown hg3 HB.out.size (by intro k hk; simp at hk; omega)⟩
    · obtain rfl : k = n := by omega
      have hK := HK.out
      rw [Nat.sub_self] at hK
      have hR1 : R1 = true := hK.symm
      subst hR1
      clear hK HK
      rw [HAL.out] at hs1
      have hRR := HRR.out
      rw [Bool.true_and] at hRR
      subst hRR
      have HW := Lib.hid (HR2.out rfl)
      have HIR := Lib.hid (HIN.out rfl)
      have HS1 := Lib.hid hs1; have HS2 := Lib.hid hs2; have HB := Lib.hid hbel
      have HL2 := Lib.hid hl2
      clear HRR HR2 HIN hl1 hl2 hs1 hs2 hbel HAL hsz
      go_wp2
      go_loopw [40] (fun i wx => ∃ j : Nat, j ≤ k ∧ i = .int .i64 j ∧ Hid (allFrom (fun i => decide ((idxK l k).getD (l.getD i 0).toNat 0 = (i : Int))) j (k - j) = R2) ∧ WdIn wx g l (idxK l k) ∧ WdIn wx w.heap.size [] zero12 ∧ Below w.heap.size w wx) (fun i _ => k - (intOf i).toNat)
      case atStart => exact ⟨0, by omega, rfl, HW.out, HS1.out, HS2.out, HB.out⟩
      case round =>
        obtain ⟨j, hj, rfl, HK, hs1, hs2, hbel⟩ := hrel
        clear HW HS1 HS2 HB
        have HS1 := Lib.hid hs1; have HS2 := Lib.hid hs2; have HB := Lib.hid hbel
        have HLN : Hid (l.length ≤ 12) := by rw [← HN.out]; exact h12
        by_cases hlt : j < k
        · obtain ⟨b1, o1, c1', e1, _, _, hcl⟩ := (H0.out.below hbel).at (by rw [← HN.out]; omega)
          simp only [Value.slice.injEq, true_and] at e1
          obtain ⟨rfl, e2, rfl⟩ := e1
          have hck := hcl j (by rw [← HN.out]; exact hlt)
          have hb := HIR.out j (by rw [← HN.out]; exact hlt)
          rw [← HN.out] at hb
          have hK := HK.out
          rw [show k - j = (k - (j + 1)) + 1 by omega] at hK
          obtain ⟨x, hx⟩ : ∃ x : Nat, l.getD j 0 = (x : Int) := ⟨(l.getD j 0).toNat, by omega⟩
          have hxn : x < k := by omega
          have hio := fun w => indexOf_any l (idxK l k) x w HLN.out HL2.out (by omega)
          cases hd : decide ((idxK l k).getD (l.getD j 0).toNat 0 = (j : Int)) with
          | true =>
            have HK' := Lib.hid (allFrom_yes hK hd)
            have hd' := of_decide_eq_true hd
            rw [hx, Int.toNat_natCast] at hd'
            rw [hd'] at hio
            rw [hx] at hck
            have HIO := Lib.hid hio
            clear HK hcl hs1 hs2 hbel e2 hb hK hx hio hd hd'
            go_wp2_with (first
              | (with_reducible refine wp_loadWd rfl (.tmp 4) rfl g l (idxK l k) HLN.out HL2.out rfl HS1.out ?_)
              | (go_at_call 72; refine (HIO.out _).mono ?_; rintro e w2 ⟨rfl, hb2⟩; have HP1 := Lib.hid (HS1.out.below hb2); have HP2 := Lib.hid (HS2.out.below hb2); have HB2 := Lib.hid (Below.step HB.out hb2); clear hb2))
            go_roundw
            case rel => exact ⟨j + 1, by omega, by go_num, HK', HP1.out, HP2.out, HB2.out⟩
            case measure => simp [intOf]; omega
          | false =>
            have hR2 := allFrom_no hK hd
            have hd' := of_decide_eq_false hd
            rw [hx, Int.toNat_natCast] at hd'
            rw [hx] at hck
            generalize (idxK l k).getD x 0 = y at hio hd'
            have HIO := Lib.hid hio
            subst hR2
            clear HK hcl hs1 hs2 hbel e2 hb hK hx hio hd
            rw [selL_no, selI_no]
            go_wp2_with (first
              | (with_reducible refine wp_loadWd rfl (.tmp 4) rfl g l (idxK l k) HLN.out HL2.out rfl HS1.out ?_)
              | (go_at_call 72; refine (HIO.out _).mono ?_; rintro e w2 ⟨rfl, hb2⟩; have HP2 := Lib.hid (HS2.out.below hb2); have HB2 := Lib.hid (Below.step HB.out hb2); clear hb2)
              | (refine wp_storeWd0 rfl (.tmp 2) (.tmp 50) rfl w.heap.size [] zero12 (Nat.zero_le _) hz rfl rfl HP2.out ?_; intro w3 hs3 hg3))
            exact bodyPost_ret (results_rwd _ _ w.heap.size [] zero12 false (by simp) hz hs3 rfl rfl) rfl ⟨rfl, HB2.out.grown hg3 HB2.out.size (by intro k hk; simp at hk; omega)⟩
        · obtain rfl : j = k := by omega
          have hK := HK.out
          rw [Nat.sub_self] at hK
          have hR2 : R2 = true := hK.symm
          subst hR2
          clear hK HK hs1 hs2 hbel
          rw [selL_yes, selI_yes, ← HN.out]
          go_wp2_with (first
            | (with_reducible refine wp_loadWd rfl (.tmp 4) rfl g l (idxK l j) HLN.out HL2.out rfl HS1.out ?_)
            | (refine wp_storeWd rfl (.tmp 2) (.tmp 52) rfl w.heap.size l (idxK l j) [] zero12 HLN.out HL2.out (Nat.zero_le _) hz rfl rfl HS2.out ?_; intro w3 hs3 hg3))
          exact bodyPost_ret (results_rwd _ _ w.heap.size l (idxK l j) true HLN.out HL2.out hs3 rfl rfl) rfl ⟨by rw [selL_yes, selI_yes, ← HN.out], HB.out.grown hg3 HB.out.size (by intro k hk; simp at hk; omega)⟩

theorem readWord_any (v : Value) (l : List Int) (w : World) (h : Rd w v l) :
    Calls Try.prog 49 #[v] w (WdOut w (selL (wordB l) l) (selI (wordB l) l) (wordB l)) := by
  unfold wordB
  by_cases h12 : l.length ≤ 12
  · simp only [h12, decide_true, Bool.true_and]
    exact readWord_run v l (rangeB l) (freshB l) w h h12 rfl fun e => idx_fresh l h12 ((range_in l).1 e)
  · simp only [h12, decide_false, Bool.false_and]
    exact readWord_len v l w h (by omega)

theorem readWord_yes (v : Value) (l : List Int) (w : World) (h : Rd w v l) (hg : wordB l = true) : Calls Try.prog 49 #[v] w (WdOut w l (idxW l) true) := by
  have := readWord_any v l w h
  rw [hg] at this
  exact this
theorem readWord_no (v : Value) (l : List Int) (w : World) (h : Rd w v l) (hg : wordB l = false) : Calls Try.prog 49 #[v] w (WdOut w [] zero12 false) := by
  have := readWord_any v l w h
  rw [hg] at this
  exact this

end Go.Proofs.Ytkohmdhjjnmfgab
