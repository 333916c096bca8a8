/- The model's stacks: spStack. -/
import Derived.Test.YteeoepbbocdchaaGood
import Derived.Test.YteeoepbbocdchaaStkMath
namespace Go.Proofs.Yteeoepbbocdchaa
open Go.RowKit
set_option linter.unusedSimpArgs false
set_option linter.unusedVariables false

theorem getD_mem_take {l : List Int} {k : Nat} (hk : k < l.length) : l.getD k 0 ∈ l.take (k + 1) := by
  rw [List.take_succ_eq_append_getElem hk]
  exact List.mem_append_right _ (by simp [List.getD, hk])
theorem take_not {l : List Int} {x : Int} {k : Nat} (hk : k < l.length) (h0 : x ∉ l.take k) (e : l.getD k 0 ≠ x) : x ∉ l.take (k + 1) := by
  rw [List.take_succ_eq_append_getElem hk]
  intro hm
  rcases List.mem_append.1 hm with h | h
  · exact h0 h
  · simp at h
    exact e (by rw [h]; simp [List.getD, hk])

set_option maxHeartbeats 1000000 in
theorem l1Has_any (v : Value) (l : List Int) (x : Int) (w : World) (h : Rd w v l) :
    Calls Try.prog 88 #[v, .int .i64 x] w (Says w (decide (x ∈ l))) := by
  obtain ⟨a, c, rfl, hlc, hcm, hnc, hrd⟩ := h
  obtain ⟨n, hn⟩ : ∃ n, n = l.length := ⟨_, rfl⟩
  rw [← hn] at hlc hrd ⊢
  unfold maxLen at hcm
  have HN := Lib.hid hn; have HC := Lib.hid hrd
  clear hn hrd hnc
  go_enter Try.func88, Try.ntmps88
  go_wp2
  go_loop [9] (fun i => ∃ k : Nat, k ≤ n ∧ i = .int .i64 k ∧ Hid (x ∉ l.take k)) (fun i => n - (intOf i).toNat)
  case atStart => exact ⟨0, by omega, rfl, Lib.hid (by simp)⟩
  case round =>
    obtain ⟨k, hk, rfl, HK⟩ := hrel
    by_cases hlt : k < n
    · rcases HC.out with h0 | ⟨bb, off, rfl, hcell⟩
      · exfalso; rw [HN.out, h0] at hlt; simp at hlt
      have hsrc := hcell k hlt
      by_cases he : l.getD k 0 = x
      · have HI : Hid (decide (x ∈ l) = true) := by
          refine decide_eq_true ?_
          rw [← he]
          exact List.mem_of_mem_take (getD_mem_take (by rw [← HN.out]; exact hlt))
        rw [he] at hsrc
        clear hcell he
        go_wp2
        go_ret
        exact ⟨by rw [HI.out]; rfl, rfl⟩
      · have HT := Lib.hid (take_not (by rw [← HN.out]; exact hlt) HK.out he)
        generalize l.getD k 0 = y at hsrc he
        have h1 : (y == x) = false := by simp; omega
        clear hcell he
        go_wp2
        go_round
        case rel => exact ⟨k + 1, by omega, by go_num, HT⟩
        case measure => simp [intOf]; omega
    · obtain rfl : k = n := by omega
      have HI : Hid (decide (x ∈ l) = false) := decide_eq_false (by have := HK.out; rw [HN.out, List.take_length] at this; exact this)
      go_wp2
      go_ret
      exact ⟨by rw [HI.out]; rfl, rfl⟩

theorem Rd.take' {w : World} {b off c n : Nat} {l : List Int} (h : Rd w (.slice (some ⟨b, off, none⟩) n c) l) (k : Nat) (hk : k ≤ l.length) : Rd w (.slice (some ⟨b, off, none⟩) k c) (l.take k) := by
  obtain ⟨a, c', hv, h1, h2, _, h3⟩ := h
  simp only [Value.slice.injEq] at hv
  obtain ⟨rfl, rfl, rfl⟩ := hv
  have hlen : (l.take k).length = k := by rw [List.length_take]; omega
  refine ⟨_, c, by rw [hlen], by omega, h2, by simp, ?_⟩
  rcases h3 with rfl | ⟨b', off', e, hc⟩
  · exact .inl (by simp)
  · simp only [Option.some.injEq, Addr.mk.injEq, and_true] at e
    obtain ⟨rfl, rfl⟩ := e
    refine .inr ⟨b, off, rfl, fun j hj => ?_⟩
    rw [hc j (by omega)]
    congr 2
    simp only [List.getD, List.getElem?_take]
    rw [if_pos (by omega)]

end Go.Proofs.Yteeoepbbocdchaa
