/- PutArch, the program's. -/
import Derived.Test.YtbinpefogecgmaaPut
namespace Go.Proofs.Ytbinpefogecgmaa
open Go.RowKit
set_option linter.unusedSimpArgs false
set_option linter.unusedVariables false

def ok_PutArch (l : List Int) (i j : Int) : Bool := goodB l && decide (l.length ≤ 10) && decide (0 ≤ i ∧ i < j ∧ j < (l.length : Int) + 2) && noCrossB (putL l i.toNat j.toNat)
def res_PutArch (l : List Int) (i j : Int) : List Int := if ok_PutArch l i j then putL l i.toNat j.toNat else []
theorem len_PutArch (l : List Int) (i j : Int) : (res_PutArch l i j).length ≤ 1000000 := by
  unfold res_PutArch
  split
  · next h => simp [ok_PutArch] at h; rw [putL_length]; omega
  · simp

theorem put_place (i j : Nat) : ∀ (x : Int) (w : World), 0 ≤ x → x < 12 → Calls Try.prog 108 #[.agg #[.int .i64 (i : Int), .int .i64 (j : Int)], .int .i64 x] w (IntOut w (widenTo (i : Int) (j : Int) x)) :=
  fun x w h1 h2 => widen_place (i : Int) (j : Int) x w h1 (by omega)

theorem put_fits {l : List Int} {i j : Nat} (hij : i < j) (hj : j < l.length + 2) (base : List Int) (hb : base.length = l.length + 2) : ∀ k : Nat, k < l.length → 0 ≤ widenTo (i : Int) (j : Int) (k : Int) ∧ widenTo (i : Int) (j : Int) (k : Int) < base.length := by
  intro k hk
  have := widen_in hij hj k hk
  rw [hb]; omega

set_option maxHeartbeats 2000000 in
theorem implPut_run (l : List Int) (i j : Nat) (R : Bool) (w : World) (u : Value) (h : Rd w u l) (hg : goodB l = true) (h10 : l.length ≤ 10) (hij : i < j) (hj : j < l.length + 2) (hR : noCrossB (putL l i j) = R) :
    Calls Try.prog 49 #[u, .int .i64 (i : Int), .int .i64 (j : Int)] w (Gives w (if R then putL l i j else []) R) := by
  have hr : ∀ k, k < l.length → 0 ≤ l.getD k 0 ∧ l.getD k 0 < 12 := fun k hk => ⟨((good_facts hg).2.2.1 k hk).1, by have := ((good_facts hg).2.2.1 k hk).2.1; omega⟩
  have hrng := ((pairedB_iff _).1 (putL_paired hg hij hj)).1
  have hplen := putL_length l i j
  have hfit := put_fits hij hj (((List.replicate (l.length + 2) 0).set i (j : Int)).set j (i : Int)) (by simp)
  have hcross := fun w => crosses_any (putL l i j) R w (by rw [hplen]; omega) hrng hR
  have HL : Hid (l.length ≤ 12) := by show _ ≤ _; omega
  have HM : Hid ((putL l i j).length ≤ 12) := by show (putL l i j).length ≤ 12; rw [hplen]; omega
  have HR := Lib.hid hr; have HG := Lib.hid hg; have HF := Lib.hid hfit; have HX := Lib.hid hcross
  obtain ⟨n, hn⟩ : ∃ n, n = l.length := ⟨_, rfl⟩
  have HN := Lib.hid hn
  rw [← hn] at h10 hj
  have HP : Hid (putL l i j = drawL (widenTo (i : Int) (j : Int)) (((List.replicate (n + 2) 0).set i (j : Int)).set j (i : Int)) l l.length) := by show putL l i j = _; rw [hn]; rfl
  clear hn hr hg hfit hcross hrng hplen hR
  cases R
  all_goals
    go_enter Try.func49, Try.ntmps49
    go_wp2_with fail
    refine (readSystem_yes u l _ h HG.out).mono ?_
    rintro e w1 ⟨rfl, hb⟩
    go_wp2_with (first
      | ((with_reducible refine wp_storeNew rfl (.tmp 8) (.tmp 15) rfl _ l HL.out rfl rfl ?_); intro w2 hs2 hb2; have hcs := hs2.size HL.out; rw [← HN.out] at hcs; have hbl := SysIn.blank w2 (n + 2) ((n : Int) + 2) (by omega) (by omega); have hs3 := SysIn.old hs2 ((n : Int) + 2))
      | (go_at_call 87; ((with_reducible refine (join_any _ i j _ _ hbl (by simp; omega) (by simp; omega) (by simp; omega)).mono ?_); rintro e w3 ⟨rfl, hs4, hg4⟩; have hs5 := hs3.grown hg4 (by have := hs2.lt; omega)))
      | (with_reducible refine wp_loadSys rfl (.tmp 8) rfl w1.heap.size l HL.out rfl hs5 ?_)
      | (go_at_call 95; ((with_reducible refine (draw_widen _ (widenTo (i : Int) (j : Int)) _ _ l _ hs4 (by simp; omega) HL.out (fun _ => put_place i j) HR.out (by rw [HN.out]; exact HF.out)).mono ?_); rintro e w4 ⟨rfl, hs6, hg6⟩; rw [← HP.out] at hs6))
      | (with_reducible refine wp_loadSys rfl (.tmp 11) rfl w2.heap.size (putL l i j) HM.out rfl (by assumption) ?_)
      | (go_at_call 110; refine (HX.out _).mono ?_; rintro e w5 ⟨rfl, hb5⟩; have hs7 := SysIn.below hs6 hb5)
      | (go_at_call 80; refine (list_any _ _ HM.out).mono ?_; rintro e w6 ⟨v, rfl, hown, hb6⟩))
    go_ret2
    have C := drawn_below (Below.step hb hb2) (grown_trans hg4 hg6)
    first
      | exact ⟨_, rfl, Own.nil _ _, Below.step C hb5⟩
      | exact ⟨_, rfl, hown.mono (Nat.le_trans C.size hb5.size), Below.step (Below.step C hb5) hb6⟩

set_option maxHeartbeats 2000000 in
theorem implPut_no (l : List Int) (i j : Int) (w : World) (u : Value) (h : Rd w u l) (hg : goodB l = true) (hc : 10 < l.length ∨ i < 0 ∨ j ≤ i ∨ (l.length : Int) + 2 ≤ j) :
    Calls Try.prog 49 #[u, .int .i64 i, .int .i64 j] w (Gives w [] false) := by
  have hl := good_len' hg
  have HL : Hid (l.length ≤ 12) := hl
  have HG := Lib.hid hg
  obtain ⟨n, hn⟩ : ∃ n, n = l.length := ⟨_, rfl⟩
  have HN := Lib.hid hn
  rw [← hn] at hc hl
  clear hn hg
  by_cases h1 : 10 < n
  · clear hc
    go_enter Try.func49, Try.ntmps49
    go_wp2_with fail
    refine (readSystem_yes u l _ h HG.out).mono ?_
    rintro e w1 ⟨rfl, hb⟩
    go_wp2_with ((with_reducible refine wp_storeNew rfl (.tmp 8) (.tmp 15) rfl _ l HL.out rfl rfl ?_); intro w2 hs2 hb2; have hcs := hs2.size HL.out; rw [← HN.out] at hcs)
    go_ret2
    exact ⟨_, rfl, Own.nil _ _, Below.step hb hb2⟩
  · by_cases h2 : i < 0
    · clear hc
      go_enter Try.func49, Try.ntmps49
      go_wp2_with fail
      refine (readSystem_yes u l _ h HG.out).mono ?_
      rintro e w1 ⟨rfl, hb⟩
      go_wp2_with ((with_reducible refine wp_storeNew rfl (.tmp 8) (.tmp 15) rfl _ l HL.out rfl rfl ?_); intro w2 hs2 hb2; have hcs := hs2.size HL.out; rw [← HN.out] at hcs)
      go_ret2
      exact ⟨_, rfl, Own.nil _ _, Below.step hb hb2⟩
    · by_cases h3 : j ≤ i
      · clear hc
        go_enter Try.func49, Try.ntmps49
        go_wp2_with fail
        refine (readSystem_yes u l _ h HG.out).mono ?_
        rintro e w1 ⟨rfl, hb⟩
        go_wp2_with ((with_reducible refine wp_storeNew rfl (.tmp 8) (.tmp 15) rfl _ l HL.out rfl rfl ?_); intro w2 hs2 hb2; have hcs := hs2.size HL.out; rw [← HN.out] at hcs)
        go_ret2
        exact ⟨_, rfl, Own.nil _ _, Below.step hb hb2⟩
      · have h4 : (n : Int) + 2 ≤ j := by omega
        clear hc
        go_enter Try.func49, Try.ntmps49
        go_wp2_with fail
        refine (readSystem_yes u l _ h HG.out).mono ?_
        rintro e w1 ⟨rfl, hb⟩
        go_wp2_with ((with_reducible refine wp_storeNew rfl (.tmp 8) (.tmp 15) rfl _ l HL.out rfl rfl ?_); intro w2 hs2 hb2; have hcs := hs2.size HL.out; rw [← HN.out] at hcs)
        go_ret2
        exact ⟨_, rfl, Own.nil _ _, Below.step hb hb2⟩

theorem impl_PutArch (l : List Int) (i j : Int) (w : World) (u : Value) (h : Rd w u l) (m : l.length ≤ 1048576) : Calls Try.prog 49 #[u, .int .i64 i, .int .i64 j] w (Gives w (res_PutArch l i j) (ok_PutArch l i j)) := by
  cases hg : goodB l with
  | false =>
    have e1 : ok_PutArch l i j = false := by simp [ok_PutArch, hg]
    have e2 : res_PutArch l i j = [] := by simp [res_PutArch, e1]
    rw [e1, e2]
    have HG := Lib.hid hg; clear hg e1 e2
    go_enter Try.func49, Try.ntmps49
    go_wp2_with fail
    refine (readSystem_no u l _ h HG.out).mono ?_
    rintro e w1 ⟨rfl, hb⟩
    go_wp2_with ((with_reducible refine wp_storeNew rfl (.tmp 8) (.tmp 15) rfl _ [] (Nat.zero_le _) rfl rfl ?_); intro w2 hs2 hb2; have hcs := hs2.size (Nat.zero_le _); rw [List.length_nil] at hcs)
    go_ret2
    exact ⟨_, rfl, Own.nil _ _, Below.step hb hb2⟩
  | true =>
    by_cases hc : 10 < l.length ∨ i < 0 ∨ j ≤ i ∨ (l.length : Int) + 2 ≤ j
    · have e1 : ok_PutArch l i j = false := by
        simp only [ok_PutArch, Bool.and_eq_false_iff, decide_eq_false_iff_not]
        rcases hc with hc | hc
        · exact .inl (.inl (.inr (by omega)))
        · exact .inl (.inr (by omega))
      have e2 : res_PutArch l i j = [] := by simp [res_PutArch, e1]
      rw [e1, e2]
      exact implPut_no l i j w u h hg hc
    · obtain ⟨i, rfl⟩ := Int.eq_ofNat_of_zero_le (show 0 ≤ i by omega)
      obtain ⟨j, rfl⟩ := Int.eq_ofNat_of_zero_le (show 0 ≤ j by omega)
      have e1 : ok_PutArch l i j = noCrossB (putL l i j) := by
        unfold ok_PutArch
        rw [hg, Int.toNat_natCast, Int.toNat_natCast, decide_eq_true (show l.length ≤ 10 by omega), decide_eq_true (show 0 ≤ (i : Int) ∧ (i : Int) < j ∧ (j : Int) < (l.length : Int) + 2 by omega)]
        simp
      have e2 : res_PutArch l i j = if noCrossB (putL l i j) then putL l i j else [] := by rw [res_PutArch, e1]; rfl
      rw [e1, e2]
      exact implPut_run l i j _ w u h hg (by omega) (by omega) (by omega) rfl

end Go.Proofs.Ytbinpefogecgmaa
