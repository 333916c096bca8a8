/- The model's peWord. -/
import Derived.Test.YtkohmdhjjnmfgabWdMath
import Derived.Test.YtkohmdhjjnmfgabStkSpec
import Derived.IntWalk
namespace Go.Proofs.Ytkohmdhjjnmfgab
open Go.RowKit
set_option linter.unusedSimpArgs false
set_option linter.unusedVariables false

set_option maxHeartbeats 1000000 in
theorem peWord_run (v : Value) (l : List Int) (R : Bool) (w : World) (h : Rd w v l) (h1 : 1 ≤ l.length) (h8 : l.length ≤ 12) (hr : rangeB l = true) (hR : freshB l = R) :
    Calls Try.prog 70 #[v] w (Says w R) := by
  unfold freshB at hR
  unfold rangeB at hr
  have HA := Lib.hid (fun w hh => l1All_any v l 0 ((l.length : Int) - 1) true w hh hr)
  clear hr
  have H0 := Lib.hid h
  obtain ⟨b, off, c, rfl, hlc, hcm, hcell⟩ := h.at (by omega)
  obtain ⟨n, hn⟩ : ∃ n, n = l.length := ⟨_, rfl⟩
  rw [← hn] at hlc hcell hR h1 h8 H0 HA ⊢
  unfold maxLen at hcm
  have HN := Lib.hid hn; have HC := Lib.hid hcell; have HR := Lib.hid hR
  clear hn hcell hR h
  go_enter Try.func70, Try.ntmps70
  have hw1 : IntKind.i64.wrap ((n : Int) - 1) = (n : Int) - 1 := IntWalk.i64_in _ (by omega)
  go_wp2_with (go_at_call 88; refine (HA.out _ H0.out).mono ?_; rintro e w' ⟨rfl, rfl⟩)
  go_loop [18] (fun i => ∃ k : Nat, k ≤ n ∧ i = .int .i64 k ∧ Hid (allFrom (fun i => !decide (l.getD i 0 ∈ l.take i)) k (n - k) = R)) (fun i => n - (intOf i).toNat)
  case atStart => exact ⟨0, by omega, rfl, HR.out⟩
  case round =>
    obtain ⟨k, hk, rfl, HK⟩ := hrel
    clear HR
    by_cases hlt : k < n
    · have hsrc := HC.out k hlt
      have HT := Lib.hid (H0.out.take' k (by rw [← HN.out]; exact hk))
      have hK := HK.out
      rw [show n - k = (n - (k + 1)) + 1 by omega] at hK
      clear HK
      cases hm : decide (l.getD k 0 ∈ l.take k) with
      | true =>
        have HK := Lib.hid (allFrom_no hK (by rw [hm]; rfl)); have HM := Lib.hid hm; clear hK hm
        have HH := Lib.hid (l1Has_any _ _ (l.getD k 0) w HT.out)
        rw [HM.out] at HH
        generalize l.getD k 0 = x at hsrc HH
        go_wp2_with (go_at_call 76; refine HH.out.mono ?_; rintro e w' ⟨rfl, rfl⟩)
        go_ret
        exact ⟨by rw [HK.out]; rfl, rfl⟩
      | false =>
        have HK := Lib.hid (allFrom_yes hK (by rw [hm]; rfl)); have HM := Lib.hid hm; clear hK hm
        have HH := Lib.hid (l1Has_any _ _ (l.getD k 0) w HT.out)
        rw [HM.out] at HH
        generalize l.getD k 0 = x at hsrc HH
        go_wp2_with (go_at_call 76; refine HH.out.mono ?_; rintro e w' ⟨rfl, rfl⟩)
        go_round
        case rel => exact ⟨k + 1, by omega, by go_num, HK.out⟩
        case measure => simp [intOf]; omega
    · obtain rfl : k = n := by omega
      have hK := HK.out
      rw [Nat.sub_self] at hK
      have HR := Lib.hid hK
      clear hK HK
      go_wp2
      go_ret
      exact ⟨by rw [← HR.out]; rfl, rfl⟩

set_option maxHeartbeats 1000000 in
theorem peWord_no (v : Value) (l : List Int) (w : World) (h : Rd w v l) (hc : 12 < l.length ∨ rangeB l = false) (hm : l.length ≤ 1048576) :
    Calls Try.prog 70 #[v] w (Says w false) := by
  have hall' := fun w hh hR => l1All_any v l 0 ((l.length : Int) - 1) false w hh hR
  have hrd0 := h
  obtain ⟨a, c, rfl, hlc, hcm, hnc, hrd⟩ := h
  obtain ⟨n, hn⟩ : ∃ n, n = l.length := ⟨_, rfl⟩
  unfold rangeB at hc
  rw [← hn] at hlc hc hall' hrd0 hm ⊢
  unfold maxLen at hcm
  have HA := Lib.hid hall'; clear hall'
  have HRD := Lib.hid hrd0; clear hrd0 hrd hn hnc
  have hw1 : IntKind.i64.wrap ((n : Int) - 1) = (n : Int) - 1 := IntWalk.i64_in _ (by omega)
  by_cases h1 : n ≤ 12
  · have H4 := Lib.hid (HA.out w HRD.out (by rcases hc with hc | hc <;> first | omega | exact hc)); clear hc
    have h2 : (n : Int) ≤ 12 := by omega
    go_enter Try.func70, Try.ntmps70
    go_wp2_with (go_at_call 88; refine H4.out.mono ?_; rintro e w' ⟨rfl, rfl⟩)
    go_ret
    exact ⟨rfl, rfl⟩
  · have h2 : (12 : Int) < n := by omega
    clear hc h1
    go_enter Try.func70, Try.ntmps70
    go_wp2
    go_ret
    exact ⟨rfl, rfl⟩

set_option maxHeartbeats 1000000 in
theorem peWord_nil (v : Value) (w : World) (h : Rd w v []) : Calls Try.prog 70 #[v] w (Says w true) := by
  have HA := Lib.hid (fun w hh => l1All_any v [] 0 (-1) true w hh rfl)
  have H0 := Lib.hid h
  obtain ⟨a, c, rfl, hlc, hcm, hnc, hrd⟩ := h
  clear hlc hcm hnc hrd
  have HX : Hid (∀ w, Rd w (Value.slice a 0 c) [] → Calls Try.prog 88 #[.slice a 0 c, .int .i64 0, .int .i64 (-1)] w (Says w true)) := HA.out
  have H00 : Hid (Rd w (Value.slice a 0 c) []) := H0.out
  clear HA H0
  go_enter Try.func70, Try.ntmps70
  go_wp2_with (go_at_call 88; refine (HX.out _ H00.out).mono ?_; rintro e w' ⟨rfl, rfl⟩)
  go_loop [18] (fun i => i = .int .i64 0) (fun _ => 0)
  case atStart => rfl
  case round =>
    subst hrel
    go_wp2
    go_ret
    exact ⟨rfl, rfl⟩

theorem peWord_any (v : Value) (l : List Int) (w : World) (h : Rd w v l) (hm : l.length ≤ 1048576) : Calls Try.prog 70 #[v] w (Says w (wordB l)) := by
  unfold wordB
  by_cases h2 : l.length ≤ 12
  · simp only [h2, decide_true, Bool.true_and]
    cases hr : rangeB l with
    | false => exact peWord_no v l w h (.inr hr) hm
    | true =>
      rw [Bool.true_and]
      by_cases h1 : 1 ≤ l.length
      · exact peWord_run v l _ w h h1 h2 hr rfl
      · obtain rfl : l = [] := List.length_eq_zero_iff.1 (by omega)
        exact peWord_nil v w h
  · simp only [h2, decide_false, Bool.false_and]
    exact peWord_no v l w h (.inl (by omega)) hm

end Go.Proofs.Ytkohmdhjjnmfgab
