/- IsSemi and WindingOf: the program's functions and the model's. -/
import Derived.Test.YtfcjgcbjiongpabSemi
namespace Go.Proofs.Ytfcjgcbjiongpab
open Go.RowKit
set_option linter.unusedSimpArgs false
set_option linter.unusedVariables false

def ok_IsSemi (l : List Int) : Bool := goodB l && decide (l.length ≠ 0)
def res_IsSemi (l : List Int) : Bool := goodB l && decide (l.length ≠ 0) && semiB l


set_option maxHeartbeats 1000000 in
theorem spSemi_any (v : Value) (l : List Int) (w : World) (h : Rd w v l) (hg : goodB l = true) (h0 : l.length ≠ 0) : Calls Try.prog 78 #[v] w (Tells w (semiB l)) := by
  have hl := good_len' hg
  have hev := (good_facts hg).1
  have hm6 : l.length / 2 ≤ 6 := by omega
  have hA := Lib.hid (fun w => ahRainbow_any (l.length / 2) hm6 w)
  have hC := Lib.hid (fun w u1 u2 (h1 : Rd w u1 l) h2 => meCount_any l (rainbow (l.length / 2)) hg (rainbow_good _ hm6) (half_len hg) w u1 u2 h1 h2)
  unfold semiB
  change Hid (∀ w u1 u2, Rd w u1 l → Rd w u2 (rainbow (l.length / 2)) → Calls _ _ _ w fun e w' => e = .returned (.int .i64 ((compsL l (rainbow (l.length / 2)) : Nat) : Int)) ∧ Below w.heap.size w w') at hC
  have HE : Hid ((((compsL l (rainbow (l.length / 2)) : Nat) : Int) == 1) = decide (compsL l (rainbow (l.length / 2)) = 1)) := by
    show _ = _
    rw [Bool.eq_iff_iff]; simp; omega
  rw [← HE.out]
  generalize compsL l (rainbow (l.length / 2)) = N at *
  generalize rainbow (l.length / 2) = R at *
  have H := Lib.hid h
  obtain ⟨a, c, rfl, hlc, hcm, hnc, hrd⟩ := h
  obtain ⟨n, hn⟩ : ∃ n, n = l.length := ⟨_, rfl⟩
  rw [← hn] at hlc hl hev h0 hA H ⊢
  unfold maxLen at hcm
  have HD : Hid ((n : Int) / 2 = ((n / 2 : Nat) : Int)) := by show _ = _; omega
  have h1 : 0 < n := by omega
  clear hn hrd hnc hg hm6 h0
  go_enter Try.func78, Try.ntmps78
  go_wp2_with (first
    | (go_at_call 89; rw [HD.out]; ((with_reducible refine (hA.out _).mono ?_); rintro e w1 ⟨v1, rfl, hown1, hb1⟩; have H1 := Lib.hid (Own.rd hown1); have HB1 := Lib.hid hb1; obtain ⟨a1, n1, c1, rfl⟩ := hown1.form'; clear hown1 hb1))
    | (go_at_call 71; ((with_reducible refine (hC.out _ _ _ (H.out.below HB1.out) H1.out).mono ?_); rintro e w2 ⟨rfl, hb2⟩)))
  go_ret
  exact ⟨rfl, Below.step HB1.out hb2⟩


/-- the winding, counted so far -/
def wndN (l : List Int) (q : Nat) : Nat → Nat
  | 0 => 0
  | k + 1 => wndN l q k + if (q : Int) ≤ l.getD k 0 then 1 else 0
def wnd (l : List Int) : Nat := wndN l (l.length / 2) (l.length / 2)
theorem wndN_le (l : List Int) (q : Nat) : ∀ k, wndN l q k ≤ k
  | 0 => by simp [wndN]
  | k + 1 => by have := wndN_le l q k; simp only [wndN]; split <;> omega
theorem wndN_yes {l : List Int} {q k : Nat} (h : (q : Int) ≤ l.getD k 0) : wndN l q (k + 1) = wndN l q k + 1 := by simp only [wndN, if_pos h]
theorem wndN_no {l : List Int} {q k : Nat} (h : ¬ (q : Int) ≤ l.getD k 0) : wndN l q (k + 1) = wndN l q k := by simp only [wndN, if_neg h, Nat.add_zero]

set_option maxHeartbeats 1000000 in
theorem winding_any (l : List Int) (w : World) (h12 : l.length ≤ 12) : Calls Try.prog 63 #[.agg (sysC l)] w fun e w' => e = .returned (.int .i64 ((wnd l : Nat) : Int)) ∧ Below w.heap.size w w' := by
  have hlast := sysC_last h12
  have HG := Lib.hid (fun i hi => sysC_get (l := l) h12 i hi)
  unfold wnd
  obtain ⟨n, hn⟩ : ∃ n, n = l.length := ⟨_, rfl⟩
  rw [← hn] at hlast h12 ⊢
  have HN := Lib.hid hn; clear hn
  obtain ⟨q, hq⟩ : ∃ q, q = n / 2 := ⟨_, rfl⟩
  have hd : (n : Int) / 2 = (q : Int) := by omega
  rw [← hq]
  have hq6 : q ≤ 6 := by omega
  clear hq
  have hal := fun b w => run_mates b q w (by omega)
  have HY := Lib.hid (fun k h => wndN_yes (l := l) (q := q) (k := k) h)
  have HNO := Lib.hid (fun k h => wndN_no (l := l) (q := q) (k := k) h)
  have HLE := Lib.hid (wndN_le l q)
  go_enter Try.func63, Try.ntmps63
  go_wp2
  clear hal
  go_loop [4, 14] (fun c i => ∃ k z : Nat, k ≤ q ∧ i = .int .i64 k ∧ c = .int .i64 (z : Int) ∧ Hid (z = wndN l q k)) (fun _ i => q - (intOf i).toNat)
  case atStart => exact ⟨0, 0, by omega, rfl, rfl, Lib.hid rfl⟩
  case round =>
    obtain ⟨k, z, hk, rfl, rfl, HZ⟩ := hrel
    by_cases hlt : k < q
    · have hc1 := HG.out k (by omega)
      have hz6 : z ≤ 6 := by have := HLE.out k; have := HZ.out; omega
      by_cases hx : (q : Int) ≤ l.getD k 0
      · have HS := Lib.hid (HY.out k hx)
        generalize l.getD k 0 = x at hc1 hx
        go_wp2
        go_round
        case rel => exact ⟨k + 1, z + 1, by omega, by go_num, by go_num, Lib.hid (by rw [HS.out, HZ.out])⟩
        case measure => simp [intOf]; omega
      · have HS := Lib.hid (HNO.out k (by omega))
        generalize l.getD k 0 = x at hc1 hx
        go_wp2
        go_round
        case rel => exact ⟨k + 1, z, by omega, by go_num, rfl, Lib.hid (by rw [HS.out, HZ.out])⟩
        case measure => simp [intOf]; omega
    · obtain rfl : k = q := by omega
      go_wp2
      go_ret
      exact ⟨by rw [HZ.out]; rfl, Below.alloc1 _ _⟩

def ok_WindingOf (l : List Int) : Bool := goodB l
def res_WindingOf (l : List Int) : Int := if goodB l then ((wnd l : Nat) : Int) else 0


set_option maxHeartbeats 1000000 in
theorem spWinding_any (v : Value) (l : List Int) (w : World) (h : Rd w v l) (h12 : l.length ≤ 12) : Calls Try.prog 62 #[v] w fun e w' => e = .returned (.int .i64 ((wnd l : Nat) : Int)) ∧ w = w' := by
  obtain ⟨a, c, rfl, hlc, hcm, hnc, hrd⟩ := h
  unfold wnd
  obtain ⟨n, hn⟩ : ∃ n, n = l.length := ⟨_, rfl⟩
  rw [← hn] at hlc h12 hrd ⊢
  unfold maxLen at hcm
  have HN := Lib.hid hn; have HC := Lib.hid hrd
  obtain ⟨q, hq⟩ : ∃ q, q = n / 2 := ⟨_, rfl⟩
  have hd : (n : Int) / 2 = (q : Int) := by omega
  have hqn : q ≤ n := by omega
  rw [← hq]
  have hq6 : q ≤ 6 := by omega
  clear hq hn hrd hnc
  have HY := Lib.hid (fun k h => wndN_yes (l := l) (q := q) (k := k) h)
  have HNO := Lib.hid (fun k h => wndN_no (l := l) (q := q) (k := k) h)
  have HLE := Lib.hid (wndN_le l q)
  go_enter Try.func62, Try.ntmps62
  go_wp2
  go_loop [3, 4] (fun c i => ∃ k z : Nat, k ≤ q ∧ i = .int .i64 k ∧ c = .int .i64 (z : Int) ∧ Hid (z = wndN l q k)) (fun _ i => q - (intOf i).toNat)
  case atStart => exact ⟨0, 0, by omega, rfl, rfl, Lib.hid rfl⟩
  case round =>
    obtain ⟨k, z, hk, rfl, rfl, HZ⟩ := hrel
    by_cases hlt : k < q
    · rcases HC.out with h0 | ⟨bb, off, rfl, hcell⟩
      · exfalso; have := HN.out; rw [h0] at this; simp at this; omega
      have hc1 := hcell k (by omega)
      have hz6 : z ≤ 6 := by have := HLE.out k; have := HZ.out; omega
      have hkn : k < n := by omega
      clear hcell
      by_cases hx : (q : Int) ≤ l.getD k 0
      · have HS := Lib.hid (HY.out k hx)
        generalize l.getD k 0 = x at hc1 hx
        go_wp2
        go_round
        case rel => exact ⟨k + 1, z + 1, by omega, by go_num, by go_num, Lib.hid (by rw [HS.out, HZ.out])⟩
        case measure => simp [intOf]; omega
      · have HS := Lib.hid (HNO.out k (by omega))
        generalize l.getD k 0 = x at hc1 hx
        go_wp2
        go_round
        case rel => exact ⟨k + 1, z, by omega, by go_num, rfl, Lib.hid (by rw [HS.out, HZ.out])⟩
        case measure => simp [intOf]; omega
    · obtain rfl : k = q := by omega
      go_wp2
      go_ret
      exact ⟨by rw [HZ.out]; rfl, rfl⟩


theorem semi_pos {l : List Int} (h : semiB l = true) : l.length ≠ 0 := by
  intro h0
  have : l = [] := List.eq_nil_of_length_eq_zero h0
  subst this
  revert h
  decide +kernel
set_option maxHeartbeats 1000000 in
theorem spSemi_nil (v : Value) (l : List Int) (w : World) (h : Rd w v l) (h0 : l.length = 0) : Calls Try.prog 78 #[v] w (Tells w false) := by
  obtain ⟨a, c, rfl, hlc, hcm, hnc, hrd⟩ := h
  rw [h0]
  clear hrd hlc hcm hnc h0
  go_enter Try.func78, Try.ntmps78
  go_wp2
  go_ret
  exact ⟨rfl, Below.refl _ _⟩
theorem spSemi_all (v : Value) (l : List Int) (w : World) (h : Rd w v l) (hg : goodB l = true) : Calls Try.prog 78 #[v] w (Tells w (semiB l)) := by
  by_cases h0 : l.length = 0
  · have : semiB l = false := by
      cases hs : semiB l with
      | false => rfl
      | true => exact absurd h0 (semi_pos hs)
    rw [this]
    exact spSemi_nil v l w h h0
  · exact spSemi_any v l w h hg h0

end Go.Proofs.Ytfcjgcbjiongpab
