/- The model's stacks: spStack. -/
import Derived.Test.YtnkkgbecdckigaaGood
import Derived.Test.YtnkkgbecdckigaaStkMath
namespace Go.Proofs.Ytnkkgbecdckigaa
open Go.RowKit
set_option linter.unusedSimpArgs false
set_option linter.unusedVariables false

theorem getD_mem_take {l : List Int} {k : Nat} (hk : k < l.length) : l.getD k 0 ∈ l.take (k + 1) := by
  rw [List.take_succ_eq_append_getElem hk]
  exact List.mem_append_right _ (by simp [List.getD, hk])
theorem take_not {l : List Int} {x : Int} {k : Nat} (hk : k < l.length) (h0 : x ∉ l.take k) (e : l.getD k 0 ≠ x) : x ∉ l.take (k + 1) := by
  rw [List.take_succ_eq_append_getElem hk]
  intro hm
  rcases List.mem_append.1 hm with h | h
  · exact h0 h
  · simp at h
    exact e (by rw [h]; simp [List.getD, hk])

set_option maxHeartbeats 1000000 in
theorem l1Has_any (v : Value) (l : List Int) (x : Int) (w : World) (h : Rd w v l) :
    Calls Try.prog 58 #[v, .int .i64 x] w (Says w (decide (x ∈ l))) := by
  obtain ⟨a, c, rfl, hlc, hcm, hnc, hrd⟩ := h
  obtain ⟨n, hn⟩ : ∃ n, n = l.length := ⟨_, rfl⟩
  rw [← hn] at hlc hrd ⊢
  unfold maxLen at hcm
  have HN := Lib.hid hn; have HC := Lib.hid hrd
  clear hn hrd hnc
  go_enter Try.func58, Try.ntmps58
  go_wp2
  go_loop [9] (fun i => ∃ k : Nat, k ≤ n ∧ i = .int .i64 k ∧ Hid (x ∉ l.take k)) (fun i => n - (intOf i).toNat)
  case atStart => exact ⟨0, by omega, rfl, Lib.hid (by simp)⟩
  case round =>
    obtain ⟨k, hk, rfl, HK⟩ := hrel
    by_cases hlt : k < n
    · rcases HC.out with h0 | ⟨bb, off, rfl, hcell⟩
      · exfalso; rw [HN.out, h0] at hlt; simp at hlt
      have hsrc := hcell k hlt
      by_cases he : l.getD k 0 = x
      · have HI : Hid (decide (x ∈ l) = true) := by
          refine decide_eq_true ?_
          rw [← he]
          exact List.mem_of_mem_take (getD_mem_take (by rw [← HN.out]; exact hlt))
        rw [he] at hsrc
        clear hcell he
        go_wp2
        go_ret
        exact ⟨by rw [HI.out]; rfl, rfl⟩
      · have HT := Lib.hid (take_not (by rw [← HN.out]; exact hlt) HK.out he)
        generalize l.getD k 0 = y at hsrc he
        have h1 : (y == x) = false := by simp; omega
        clear hcell he
        go_wp2
        go_round
        case rel => exact ⟨k + 1, by omega, by go_num, HT⟩
        case measure => simp [intOf]; omega
    · obtain rfl : k = n := by omega
      have HI : Hid (decide (x ∈ l) = false) := decide_eq_false (by have := HK.out; rw [HN.out, List.take_length] at this; exact this)
      go_wp2
      go_ret
      exact ⟨by rw [HI.out]; rfl, rfl⟩

theorem Rd.take' {w : World} {b off c n : Nat} {l : List Int} (h : Rd w (.slice (some ⟨b, off, none⟩) n c) l) (k : Nat) (hk : k ≤ l.length) : Rd w (.slice (some ⟨b, off, none⟩) k c) (l.take k) := by
  obtain ⟨a, c', hv, h1, h2, _, h3⟩ := h
  simp only [Value.slice.injEq] at hv
  obtain ⟨rfl, rfl, rfl⟩ := hv
  have hlen : (l.take k).length = k := by rw [List.length_take]; omega
  refine ⟨_, c, by rw [hlen], by omega, h2, by simp, ?_⟩
  rcases h3 with rfl | ⟨b', off', e, hc⟩
  · exact .inl (by simp)
  · simp only [Option.some.injEq, Addr.mk.injEq, and_true] at e
    obtain ⟨rfl, rfl⟩ := e
    refine .inr ⟨b, off, rfl, fun j hj => ?_⟩
    rw [hc j (by omega)]
    congr 2
    simp only [List.getD, List.getElem?_take]
    rw [if_pos (by omega)]

set_option maxHeartbeats 1000000 in
theorem spStack_run (v : Value) (l : List Int) (R : Bool) (w : World) (h : Rd w v l) (h1 : 1 ≤ l.length) (h8 : l.length ≤ 8) (hr : rangeB l = true) (hR : freshB l = R) :
    Calls Try.prog 34 #[v] w (Says w R) := by
  unfold freshB at hR
  unfold rangeB at hr
  have HA := Lib.hid (fun w hh => l1All_any v l 0 ((l.length : Int) - 1) true w hh hr)
  clear hr
  have H0 := Lib.hid h
  obtain ⟨b, off, c, rfl, hlc, hcm, hcell⟩ := h.at (by omega)
  obtain ⟨n, hn⟩ : ∃ n, n = l.length := ⟨_, rfl⟩
  rw [← hn] at hlc hcell hR h1 h8 H0 HA ⊢
  unfold maxLen at hcm
  have HN := Lib.hid hn; have HC := Lib.hid hcell; have HR := Lib.hid hR
  clear hn hcell hR h
  have HI : Hid (inB (n : Int) 1 8 = true) := inB_yes (by omega) (by omega)
  go_enter Try.func34, Try.ntmps34
  go_wp2_with (first
    | (go_at_call 44; refine (l1In_any _ _ _ _).mono ?_; rintro e w' ⟨rfl, rfl⟩; rw [HI.out])
    | (go_at_call 57; refine (HA.out _ H0.out).mono ?_; rintro e w' ⟨rfl, rfl⟩))
  go_loop [19] (fun i => ∃ k : Nat, k ≤ n ∧ i = .int .i64 k ∧ Hid (allFrom (fun i => !decide (l.getD i 0 ∈ l.take i)) k (n - k) = R)) (fun i => n - (intOf i).toNat)
  case atStart => exact ⟨0, by omega, rfl, HR.out⟩
  case round =>
    obtain ⟨k, hk, rfl, HK⟩ := hrel
    clear HR
    by_cases hlt : k < n
    · have hsrc := HC.out k hlt
      have HT := Lib.hid (H0.out.take' k (by rw [← HN.out]; exact hk))
      have hK := HK.out
      rw [show n - k = (n - (k + 1)) + 1 by omega] at hK
      clear HK
      cases hm : decide (l.getD k 0 ∈ l.take k) with
      | true =>
        have HK := Lib.hid (allFrom_no hK (by rw [hm]; rfl)); have HM := Lib.hid hm; clear hK hm
        have HH := Lib.hid (l1Has_any _ _ (l.getD k 0) w HT.out)
        rw [HM.out] at HH
        generalize l.getD k 0 = x at hsrc HH
        go_wp2_with (go_at_call 58; refine HH.out.mono ?_; rintro e w' ⟨rfl, rfl⟩)
        go_ret
        exact ⟨by rw [HK.out]; rfl, rfl⟩
      | false =>
        have HK := Lib.hid (allFrom_yes hK (by rw [hm]; rfl)); have HM := Lib.hid hm; clear hK hm
        have HH := Lib.hid (l1Has_any _ _ (l.getD k 0) w HT.out)
        rw [HM.out] at HH
        generalize l.getD k 0 = x at hsrc HH
        go_wp2_with (go_at_call 58; refine HH.out.mono ?_; rintro e w' ⟨rfl, rfl⟩)
        go_round
        case rel => exact ⟨k + 1, by omega, by go_num, HK.out⟩
        case measure => simp [intOf]; omega
    · obtain rfl : k = n := by omega
      have hK := HK.out
      rw [Nat.sub_self] at hK
      have HR := Lib.hid hK
      clear hK HK
      go_wp2
      go_ret
      exact ⟨by rw [← HR.out]; rfl, rfl⟩

set_option maxHeartbeats 1000000 in
theorem spStack_no (v : Value) (l : List Int) (w : World) (h : Rd w v l) (hc : l.length < 1 ∨ 8 < l.length ∨ rangeB l = false) :
    Calls Try.prog 34 #[v] w (Says w false) := by
  have hall' := fun w hh hR => l1All_any v l 0 ((l.length : Int) - 1) false w hh hR
  have hrd0 := h
  obtain ⟨a, c, rfl, hlc, hcm, hnc, hrd⟩ := h
  obtain ⟨n, hn⟩ : ∃ n, n = l.length := ⟨_, rfl⟩
  unfold rangeB at hc
  rw [← hn] at hlc hc hall' hrd0 ⊢
  unfold maxLen at hcm
  have HA := Lib.hid hall'; clear hall'
  have HRD := Lib.hid hrd0; clear hrd0 hrd hn hnc
  by_cases h1 : 1 ≤ n ∧ n ≤ 8
  · have HI : Hid (inB (n : Int) 1 8 = true) := inB_yes (by omega) (by omega)
    have H4 := Lib.hid (HA.out w HRD.out (by rcases hc with hc | hc | hc <;> first | omega | exact hc)); clear hc
    obtain ⟨h2, h3⟩ := h1
    go_enter Try.func34, Try.ntmps34
    go_wp2_with (first
      | (go_at_call 44; refine (l1In_any _ _ _ _).mono ?_; rintro e w' ⟨rfl, rfl⟩; rw [HI.out])
      | (go_at_call 57; refine H4.out.mono ?_; rintro e w' ⟨rfl, rfl⟩))
    go_ret
    exact ⟨rfl, rfl⟩
  · have HI : Hid (inB (n : Int) 1 8 = false) := inB_no (by omega)
    clear hc h1
    go_enter Try.func34, Try.ntmps34
    go_wp2_with (go_at_call 44; refine (l1In_any _ _ _ _).mono ?_; rintro e w' ⟨rfl, rfl⟩; rw [HI.out])
    go_ret
    exact ⟨rfl, rfl⟩

theorem spStack_any (v : Value) (l : List Int) (w : World) (h : Rd w v l) : Calls Try.prog 34 #[v] w (Says w (stackB l)) := by
  by_cases h1 : l.length < 1
  · have e : stackB l = false := by simp [stackB, show ¬ 1 ≤ l.length by omega]
    rw [e]; exact spStack_no v l w h (.inl h1)
  · by_cases h2 : 8 < l.length
    · have e : stackB l = false := by simp [stackB, show ¬ l.length ≤ 8 by omega]
      rw [e]; exact spStack_no v l w h (.inr (.inl h2))
    · cases h3 : rangeB l with
      | false =>
        have e : stackB l = false := by simp [stackB, hasAll_eq, h3]
        rw [e]; exact spStack_no v l w h (.inr (.inr h3))
      | true =>
        refine spStack_run v l _ w h (by omega) (by omega) h3 ?_
        simp [stackB, hasAll_eq, h3, show 1 ≤ l.length by omega, show l.length ≤ 8 by omega]

end Go.Proofs.Ytnkkgbecdckigaa
