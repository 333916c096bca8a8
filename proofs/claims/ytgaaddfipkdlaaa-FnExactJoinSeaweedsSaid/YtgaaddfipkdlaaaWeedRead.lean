/- The program's seaweeds and the model's test for them. -/
import Derived.Test.YtgaaddfipkdlaaaWeed
import Derived.Test.YtgaaddfipkdlaaaWeedMath
import Derived.Test.YtgaaddfipkdlaaaGood
namespace Go.Proofs.Ytgaaddfipkdlaaa
open Go.RowKit
set_option linter.unusedSimpArgs false
set_option linter.unusedVariables false

def SumOut (w : World) (n : Int) (e : Ending) (w' : World) : Prop := e = .returned (.int .i64 n) ∧ w = w'

set_option maxHeartbeats 400000 in
theorem swSum_any (v : Value) (l : List Int) (w : World) (h : Rd w v l) (hl : l.length ≤ 20) (hr : ∀ k, k < l.length → 1 ≤ l.getD k 0 ∧ l.getD k 0 ≤ 20) :
    Calls Try.prog 46 #[v] w (SumOut w l.sum) := by
  obtain ⟨a, c, rfl, hlc, hcm, _, hrd⟩ := h
  have hs := small_take hl hr
  obtain ⟨n, hn⟩ : ∃ n, n = l.length := ⟨_, rfl⟩
  rw [← hn] at hrd hlc hl hr hs ⊢
  unfold maxLen at hcm
  have HN := Lib.hid hn; have HC := Lib.hid hrd; have HR := Lib.hid hr; have HS := Lib.hid hs
  clear hn hrd hr hs
  go_enter Try.func46, Try.ntmps46
  go_wp2
  go_loop [3, 8] (fun s i => ∃ k : Nat, k ≤ n ∧ i = .int .i64 k ∧ s = .int .i64 (l.take k).sum) (fun _ i => n - (intOf i).toNat)
  case atStart => exact ⟨0, by omega, rfl, by simp⟩
  case round =>
    obtain ⟨k, hk, rfl, rfl⟩ := hrel
    have hs := HS.out k hk
    by_cases hlt : k < n
    · rcases HC.out with h0 | ⟨b, off, rfl, hcell⟩
      · exfalso; rw [HN.out, h0] at hlt; simp at hlt
      have hc := hcell k hlt
      have hr := HR.out k hlt
      have HE := Lib.hid (sum_take_succ l k (by rw [← HN.out]; exact hlt))
      clear hcell
      generalize l.getD k 0 = x at *
      generalize (l.take k).sum = s at *
      go_wp2
      go_round
      case rel => exact ⟨k + 1, by omega, by go_num, by rw [HE.out]⟩
      case measure => simp [intOf]; omega
    · obtain rfl : k = n := by omega
      go_wp2
      go_ret
      exact ⟨by rw [HN.out, List.take_length]; rfl, rfl⟩

set_option maxHeartbeats 400000 in
theorem sum_any (v : Value) (l : List Int) (w : World) (h : Rd w v l) (hl : l.length ≤ 20) (hr : ∀ k, k < l.length → 1 ≤ l.getD k 0 ∧ l.getD k 0 ≤ 20) :
    Calls Try.prog 56 #[v] w (SumOut w l.sum) := by
  obtain ⟨a, c, rfl, hlc, hcm, _, hrd⟩ := h
  have hs := small_take hl hr
  obtain ⟨n, hn⟩ : ∃ n, n = l.length := ⟨_, rfl⟩
  rw [← hn] at hrd hlc hl hr hs ⊢
  unfold maxLen at hcm
  have HN := Lib.hid hn; have HC := Lib.hid hrd; have HR := Lib.hid hr; have HS := Lib.hid hs
  clear hn hrd hr hs
  go_enter Try.func56, Try.ntmps56
  go_wp2
  go_loop [3, 8] (fun s i => ∃ k : Nat, k ≤ n ∧ i = .int .i64 k ∧ s = .int .i64 (l.take k).sum) (fun _ i => n - (intOf i).toNat)
  case atStart => exact ⟨0, by omega, rfl, by simp⟩
  case round =>
    obtain ⟨k, hk, rfl, rfl⟩ := hrel
    have hs := HS.out k hk
    by_cases hlt : k < n
    · rcases HC.out with h0 | ⟨b, off, rfl, hcell⟩
      · exfalso; rw [HN.out, h0] at hlt; simp at hlt
      have hc := hcell k hlt
      have hr := HR.out k hlt
      have HE := Lib.hid (sum_take_succ l k (by rw [← HN.out]; exact hlt))
      clear hcell
      generalize l.getD k 0 = x at *
      generalize (l.take k).sum = s at *
      go_wp2
      go_round
      case rel => exact ⟨k + 1, by omega, by go_num, by rw [HE.out]⟩
      case measure => simp [intOf]; omega
    · obtain rfl : k = n := by omega
      go_wp2
      go_ret
      exact ⟨by rw [HN.out, List.take_length]; rfl, rfl⟩
def PartsYes (w : World) (v : Value) (e : Ending) (w' : World) : Prop := e = .returned (.tuple #[v, .bool true]) ∧ w = w'
def PartsNo (w : World) (e : Ending) (w' : World) : Prop := e = .returned (.tuple #[.slice none 0 0, .bool false]) ∧ w = w'

set_option maxHeartbeats 400000 in
theorem readParts_run (R : Bool) (v : Value) (l : List Int) (w : World) (h : Rd w v l) (hR : partsB l = R) :
    Calls Try.prog 55 #[v] w (fun e w' => (R = true → PartsYes w v e w') ∧ (R = false → PartsNo w e w')) := by
  obtain ⟨a, c, rfl, hlc, hcm, _, hrd⟩ := h
  obtain ⟨n, hn⟩ : ∃ n, n = l.length := ⟨_, rfl⟩
  rw [← hn] at hrd hlc ⊢
  unfold maxLen at hcm
  have HN := Lib.hid hn; have HC := Lib.hid hrd; have HRR := Lib.hid hR
  clear hn hrd hR
  go_enter Try.func55, Try.ntmps55
  go_wp2
  go_loop [4, 9] (fun s i => ∃ k : Nat, k ≤ n ∧ i = .int .i64 k ∧ s = .int .i64 (l.take k).sum ∧ Hid (partsB (l.take k) = true)) (fun _ i => n - (intOf i).toNat)
  case atStart => exact ⟨0, by omega, rfl, by simp, by show _ = true; simp [parts_nil]⟩
  case round =>
    obtain ⟨k, hk, rfl, rfl, HP⟩ := hrel
    have hs := parts_take_sum HP.out
    by_cases hlt : k < n
    · rcases HC.out with h0 | ⟨b, off, rfl, hcell⟩
      · exfalso; rw [HN.out, h0] at hlt; simp at hlt
      have hc := hcell k hlt
      have hkl : k < l.length := by rw [← HN.out]; exact hlt
      have HE := Lib.hid (sum_take_succ l k hkl)
      have hbad := fun h => parts_bad (l := l) (k := k) hkl h
      have hgood := parts_snoc hkl HP.out
      have HB := Lib.hid hbad; have HG := Lib.hid hgood
      clear hcell hbad hgood hkl HP
      generalize l.getD k 0 = x at *
      generalize (l.take k).sum = s at *
      by_cases h1 : x < 1
      · obtain rfl : R = false := by rw [← HRR.out]; exact HB.out (.inl h1)
        go_wp2
        go_ret2
        exact ⟨rfl, rfl⟩
      · by_cases h2 : 20 - s < x
        · obtain rfl : R = false := by rw [← HRR.out]; exact HB.out (.inr h2)
          go_wp2
          go_ret2
          exact ⟨rfl, rfl⟩
        · have HP := Lib.hid (HG.out (by omega) (by omega))
          go_wp2
          go_round
          case rel => exact ⟨k + 1, by omega, by go_num, by rw [HE.out], HP.out⟩
          case measure => simp [intOf]; omega
    · obtain rfl : k = n := by omega
      have hR : R = true := by rw [← HRR.out, ← HP.out, HN.out, List.take_length]
      subst hR
      go_wp2
      go_ret2
      exact ⟨rfl, rfl⟩
theorem readParts_yes (v : Value) (l : List Int) (w : World) (h : Rd w v l) (hR : partsB l = true) : Calls Try.prog 55 #[v] w (PartsYes w v) :=
  (readParts_run true v l w h hR).mono fun _ _ h => h.1 rfl
theorem readParts_no (v : Value) (l : List Int) (w : World) (h : Rd w v l) (hR : partsB l = false) : Calls Try.prog 55 #[v] w (PartsNo w) :=
  (readParts_run false v l w h hR).mono fun _ _ h => h.2 rfl

theorem parts_all {l : List Int} (h : allFrom (fun i => inB (l.getD i 0) 1 20) 0 l.length = true) : ∀ k, k < l.length → 1 ≤ l.getD k 0 ∧ l.getD k 0 ≤ 20 :=
  fun k hk => inB_iff.1 ((allFrom_iff _ _ _).1 h k (Nat.zero_le _) (by omega))
set_option maxHeartbeats 400000 in
theorem swParts_any (v : Value) (l : List Int) (w : World) (h : Rd w v l) (hl : l.length ≤ 1048576) :
    Calls Try.prog 50 #[v] w (Says w (partsB l)) := by
  have H := Lib.hid h
  obtain ⟨a, c, rfl, hlc, hcm, _, hrd⟩ := h
  unfold maxLen at hcm
  clear hrd
  have hE := parts_eq l
  obtain ⟨n, hn⟩ : ∃ n, n = l.length := ⟨_, rfl⟩
  have HN := Lib.hid hn
  rw [← hn] at hlc hl hE ⊢
  by_cases h1 : n ≤ 20
  · rw [decide_eq_true h1, Bool.true_and] at hE
    cases h2 : allFrom (fun i => inB (l.getD i 0) 1 20) 0 n with
    | false =>
      rw [h2, Bool.false_and] at hE
      rw [hE]
      have HA := Lib.hid (l1All_any _ l 1 20 false w H.out (by rw [← hn]; exact h2))
      rw [← hn] at HA
      clear hE h2 hn
      go_enter Try.func50, Try.ntmps50
      go_wp2_with (go_at_call 59; refine HA.out.mono ?_; rintro e w' ⟨rfl, rfl⟩)
      go_ret
      exact ⟨rfl, rfl⟩
    | true =>
      rw [h2, Bool.true_and] at hE
      rw [hE]
      have HA := Lib.hid (l1All_any _ l 1 20 true w H.out (by rw [← hn]; exact h2))
      rw [hn] at h2
      have HB := Lib.hid (swSum_any _ l w H.out (by omega) (parts_all h2))
      rw [← hn] at HA HB
      have hb := small_take (l := l) (by omega) (parts_all h2) l.length (Nat.le_refl _)
      rw [List.take_length, ← hn] at hb
      clear hE h2 hn
      generalize l.sum = s at *
      go_enter Try.func50, Try.ntmps50
      go_wp2_with (first
        | (go_at_call 59; refine HA.out.mono ?_; rintro e w' ⟨rfl, rfl⟩)
        | (go_at_call 46; refine HB.out.mono ?_; rintro e w' ⟨rfl, rfl⟩))
      go_ret
      exact ⟨rfl, rfl⟩
  · have hF : partsB l = false := by rw [hE, decide_eq_false h1]; rfl
    rw [hF]
    clear hE hn hF
    go_enter Try.func50, Try.ntmps50
    go_wp2
    go_ret
    exact ⟨rfl, rfl⟩

theorem parts_rng {l : List Int} (h : partsB l = true) : ∀ k, k < l.length → 1 ≤ l.getD k 0 ∧ l.getD k 0 ≤ 20 := fun k hk => by have := parts_at h hk; omega

end Go.Proofs.Ytgaaddfipkdlaaa
