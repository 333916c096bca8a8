/- IsSemi and WindingOf: the program's functions and the model's. -/
import Derived.Test.YtodbjkfikbkkbacSemi
namespace Go.Proofs.Ytodbjkfikbkkbac
open Go.RowKit
set_option linter.unusedSimpArgs false
set_option linter.unusedVariables false

def ok_IsSemi (l : List Int) : Bool := goodB l && decide (l.length ≠ 0)
def res_IsSemi (l : List Int) : Bool := goodB l && decide (l.length ≠ 0) && semiB l

set_option maxHeartbeats 1000000 in
theorem impl_IsSemi (l : List Int) (w : World) (u : Value) (h : Rd w u l) (m : l.length ≤ 1048576) : Calls Try.prog 13 #[u] w (GivesD w (res_IsSemi l) (ok_IsSemi l)) := by
  unfold res_IsSemi ok_IsSemi
  cases hg : goodB l with
  | true =>
    have HL := Lib.hid (good_len' hg)
    have HF := Lib.hid (fun w => isSemi_any l w hg)
    have HG := Lib.hid hg; clear hg
    rw [Bool.true_and]
    obtain ⟨n, hn⟩ : ∃ n, n = l.length := ⟨_, rfl⟩
    have HN := Lib.hid hn
    rw [← hn]
    clear hn
    by_cases h0 : n = 0
    · have HD : Hid (decide (n ≠ 0) = false) := decide_eq_false (by omega)
      rw [HD.out, Bool.false_and]
      have H0 := Lib.hid h0
      clear h0
      go_enter Try.func13, Try.ntmps13
      go_wp2_with fail
      refine (readSystem_yes u l _ h HG.out).mono ?_
      rintro e w1 ⟨rfl, hb⟩
      go_wp2_with ((with_reducible refine wp_storeNew rfl (.tmp 4) (.tmp 9) rfl _ l HL.out rfl rfl ?_); intro w2 hs2 hb2; have hcs := hs2.size HL.out; rw [← HN.out, H0.out] at hcs)
      go_ret2
      exact ⟨rfl, Below.step hb hb2⟩
    · have HD : Hid (decide (n ≠ 0) = true) := decide_eq_true h0
      rw [HD.out, Bool.true_and]
      have h1 : ((n : Int) == 0) = false := by simp; omega
      go_enter Try.func13, Try.ntmps13
      go_wp2_with fail
      refine (readSystem_yes u l _ h HG.out).mono ?_
      rintro e w1 ⟨rfl, hb⟩
      go_wp2_with (first
        | ((with_reducible refine wp_storeNew rfl (.tmp 4) (.tmp 9) rfl _ l HL.out rfl rfl ?_); intro w2 hs2 hb2; have hcs := hs2.size HL.out; rw [← HN.out] at hcs)
        | (with_reducible refine wp_loadSys rfl (.tmp 4) rfl w1.heap.size l HL.out rfl hs2 ?_)
        | (go_at_call 40; refine (HF.out _).mono ?_; rintro e w3 ⟨rfl, hb3⟩))
      go_ret2
      exact ⟨rfl, Below.step (Below.step hb hb2) hb3⟩
  | false =>
    have HG := Lib.hid hg; clear hg
    rw [Bool.false_and, Bool.false_and]
    go_enter Try.func13, Try.ntmps13
    go_wp2_with fail
    refine (readSystem_no u l _ h HG.out).mono ?_
    rintro e w1 ⟨rfl, hb⟩
    go_wp2_with ((with_reducible refine wp_storeNew rfl (.tmp 4) (.tmp 9) rfl _ [] (Nat.zero_le _) rfl rfl ?_); intro w2 hs2 hb2)
    go_ret2
    exact ⟨rfl, Below.step hb hb2⟩

set_option maxHeartbeats 1000000 in
theorem spSemi_any (v : Value) (l : List Int) (w : World) (h : Rd w v l) (hg : goodB l = true) (h0 : l.length ≠ 0) : Calls Try.prog 38 #[v] w (Tells w (semiB l)) := by
  have hl := good_len' hg
  have hev := (good_facts hg).1
  have hm6 : l.length / 2 ≤ 6 := by omega
  have hA := Lib.hid (fun w => ahRainbow_any (l.length / 2) hm6 w)
  have hC := Lib.hid (fun w u1 u2 (h1 : Rd w u1 l) h2 => meCount_any l (rainbow (l.length / 2)) hg (rainbow_good _ hm6) (half_len hg) w u1 u2 h1 h2)
  unfold semiB
  change Hid (∀ w u1 u2, Rd w u1 l → Rd w u2 (rainbow (l.length / 2)) → Calls _ _ _ w fun e w' => e = .returned (.int .i64 ((compsL l (rainbow (l.length / 2)) : Nat) : Int)) ∧ Below w.heap.size w w') at hC
  have HE : Hid ((((compsL l (rainbow (l.length / 2)) : Nat) : Int) == 1) = decide (compsL l (rainbow (l.length / 2)) = 1)) := by
    show _ = _
    rw [Bool.eq_iff_iff]; simp; omega
  rw [← HE.out]
  generalize compsL l (rainbow (l.length / 2)) = N at *
  generalize rainbow (l.length / 2) = R at *
  have H := Lib.hid h
  obtain ⟨a, c, rfl, hlc, hcm, hnc, hrd⟩ := h
  obtain ⟨n, hn⟩ : ∃ n, n = l.length := ⟨_, rfl⟩
  rw [← hn] at hlc hl hev h0 hA H ⊢
  unfold maxLen at hcm
  have HD : Hid ((n : Int) / 2 = ((n / 2 : Nat) : Int)) := by show _ = _; omega
  have h1 : 0 < n := by omega
  clear hn hrd hnc hg hm6 h0
  go_enter Try.func38, Try.ntmps38
  go_wp2_with (first
    | (go_at_call 62; rw [HD.out]; ((with_reducible refine (hA.out _).mono ?_); rintro e w1 ⟨v1, rfl, hown1, hb1⟩; have H1 := Lib.hid (Own.rd hown1); have HB1 := Lib.hid hb1; obtain ⟨a1, n1, c1, rfl⟩ := hown1.form'; clear hown1 hb1))
    | (go_at_call 61; ((with_reducible refine (hC.out _ _ _ (H.out.below HB1.out) H1.out).mono ?_); rintro e w2 ⟨rfl, hb2⟩)))
  go_ret
  exact ⟨rfl, Below.step HB1.out hb2⟩

set_option maxHeartbeats 1000000 in
theorem spec_IsSemi (l : List Int) (w : World) (u : Value) (h : Rd w u l) (m : l.length ≤ 1048576) : Calls Try.prog 11 #[u] w (GivesD w (res_IsSemi l) (ok_IsSemi l)) := by
  unfold res_IsSemi ok_IsSemi
  have HA := Lib.hid (ahGood_any u l w h m)
  cases hg : goodB l with
  | true =>
    rw [hg] at HA
    rw [Bool.true_and]
    have HS := Lib.hid (fun (w1 : World) (h1 : Rd w1 u l) (h0 : l.length ≠ 0) => spSemi_any u l w1 h1 hg h0)
    have H := Lib.hid h
    obtain ⟨a, c, rfl, hlc, hcm, hnc, hrd⟩ := h
    obtain ⟨n, hn⟩ : ∃ n, n = l.length := ⟨_, rfl⟩
    rw [← hn] at hlc H HS HA m ⊢
    unfold maxLen at hcm
    clear hn hrd hnc hg
    by_cases h0 : n = 0
    · have HD : Hid (decide (n ≠ 0) = false) := decide_eq_false (by omega)
      rw [HD.out, Bool.false_and]
      subst h0
      clear HD
      go_enter Try.func11, Try.ntmps11
      go_wp2_with (go_at_call 37; refine HA.out.mono ?_; rintro e w1 ⟨rfl, hb⟩)
      go_ret2
      exact ⟨rfl, hb⟩
    · have HD : Hid (decide (n ≠ 0) = true) := decide_eq_true h0
      rw [HD.out, Bool.true_and]
      have h1 : ((n : Int) == 0) = false := by simp; omega
      go_enter Try.func11, Try.ntmps11
      go_wp2_with (first
        | (go_at_call 37; refine HA.out.mono ?_; rintro e w1 ⟨rfl, hb⟩)
        | (go_at_call 38; refine (HS.out _ (H.out.below hb) h0).mono ?_; rintro e w2 ⟨rfl, hb2⟩))
      go_ret2
      exact ⟨rfl, Below.step hb hb2⟩
  | false =>
    rw [hg] at HA
    rw [Bool.false_and, Bool.false_and]
    clear hg h
    go_enter Try.func11, Try.ntmps11
    go_wp2_with (go_at_call 37; refine HA.out.mono ?_; rintro e w1 ⟨rfl, hb⟩)
    go_ret2
    exact ⟨rfl, hb⟩

/-- the winding, counted so far -/
def wndN (l : List Int) (q : Nat) : Nat → Nat
  | 0 => 0
  | k + 1 => wndN l q k + if (q : Int) ≤ l.getD k 0 then 1 else 0
def wnd (l : List Int) : Nat := wndN l (l.length / 2) (l.length / 2)
theorem wndN_le (l : List Int) (q : Nat) : ∀ k, wndN l q k ≤ k
  | 0 => by simp [wndN]
  | k + 1 => by have := wndN_le l q k; simp only [wndN]; split <;> omega
theorem wndN_yes {l : List Int} {q k : Nat} (h : (q : Int) ≤ l.getD k 0) : wndN l q (k + 1) = wndN l q k + 1 := by simp only [wndN, if_pos h]
theorem wndN_no {l : List Int} {q k : Nat} (h : ¬ (q : Int) ≤ l.getD k 0) : wndN l q (k + 1) = wndN l q k := by simp only [wndN, if_neg h, Nat.add_zero]

set_option maxHeartbeats 1000000 in
theorem winding_any (l : List Int) (w : World) (h12 : l.length ≤ 12) : Calls Try.prog 47 #[.agg (sysC l)] w fun e w' => e = .returned (.int .i64 ((wnd l : Nat) : Int)) ∧ Below w.heap.size w w' := by
  have hlast := sysC_last h12
  have HG := Lib.hid (fun i hi => sysC_get (l := l) h12 i hi)
  unfold wnd
  obtain ⟨n, hn⟩ : ∃ n, n = l.length := ⟨_, rfl⟩
  rw [← hn] at hlast h12 ⊢
  have HN := Lib.hid hn; clear hn
  obtain ⟨q, hq⟩ : ∃ q, q = n / 2 := ⟨_, rfl⟩
  have hd : (n : Int) / 2 = (q : Int) := by omega
  rw [← hq]
  have hq6 : q ≤ 6 := by omega
  clear hq
  have hal := fun b w => run_mates b q w (by omega)
  have HY := Lib.hid (fun k h => wndN_yes (l := l) (q := q) (k := k) h)
  have HNO := Lib.hid (fun k h => wndN_no (l := l) (q := q) (k := k) h)
  have HLE := Lib.hid (wndN_le l q)
  go_enter Try.func47, Try.ntmps47
  go_wp2
  clear hal
  go_loop [4, 14] (fun c i => ∃ k z : Nat, k ≤ q ∧ i = .int .i64 k ∧ c = .int .i64 (z : Int) ∧ Hid (z = wndN l q k)) (fun _ i => q - (intOf i).toNat)
  case atStart => exact ⟨0, 0, by omega, rfl, rfl, Lib.hid rfl⟩
  case round =>
    obtain ⟨k, z, hk, rfl, rfl, HZ⟩ := hrel
    by_cases hlt : k < q
    · have hc1 := HG.out k (by omega)
      have hz6 : z ≤ 6 := by have := HLE.out k; have := HZ.out; omega
      by_cases hx : (q : Int) ≤ l.getD k 0
      · have HS := Lib.hid (HY.out k hx)
        generalize l.getD k 0 = x at hc1 hx
        go_wp2
        go_round
        case rel => exact ⟨k + 1, z + 1, by omega, by go_num, by go_num, Lib.hid (by rw [HS.out, HZ.out])⟩
        case measure => simp [intOf]; omega
      · have HS := Lib.hid (HNO.out k (by omega))
        generalize l.getD k 0 = x at hc1 hx
        go_wp2
        go_round
        case rel => exact ⟨k + 1, z, by omega, by go_num, rfl, Lib.hid (by rw [HS.out, HZ.out])⟩
        case measure => simp [intOf]; omega
    · obtain rfl : k = q := by omega
      go_wp2
      go_ret
      exact ⟨by rw [HZ.out]; rfl, Below.alloc1 _ _⟩

def ok_WindingOf (l : List Int) : Bool := goodB l
def res_WindingOf (l : List Int) : Int := if goodB l then ((wnd l : Nat) : Int) else 0

set_option maxHeartbeats 1000000 in
theorem impl_WindingOf (l : List Int) (w : World) (u : Value) (h : Rd w u l) (m : l.length ≤ 1048576) : Calls Try.prog 25 #[u] w (GivesN w (res_WindingOf l) (ok_WindingOf l)) := by
  unfold res_WindingOf ok_WindingOf
  cases hg : goodB l with
  | true =>
    have HL := Lib.hid (good_len' hg)
    have HF := Lib.hid (fun w => winding_any l w HL.out)
    have HG := Lib.hid hg; clear hg
    simp only [if_true]
    go_enter Try.func25, Try.ntmps25
    go_wp2_with fail
    refine (readSystem_yes u l _ h HG.out).mono ?_
    rintro e w1 ⟨rfl, hb⟩
    go_wp2_with (first
      | ((with_reducible refine wp_storeNew rfl (.tmp 4) (.tmp 9) rfl _ l HL.out rfl rfl ?_); intro w2 hs2 hb2)
      | (with_reducible refine wp_loadSys rfl (.tmp 4) rfl w1.heap.size l HL.out rfl hs2 ?_)
      | (go_at_call 47; refine (HF.out _).mono ?_; rintro e w3 ⟨rfl, hb3⟩))
    go_ret2
    exact ⟨rfl, Below.step (Below.step hb hb2) hb3⟩
  | false =>
    have HG := Lib.hid hg; clear hg
    simp only [Bool.false_eq_true, if_false]
    have HF : Hid (∀ w, Calls Try.prog 47 #[.agg (sysC [])] w fun e w' => e = .returned (.int .i64 0) ∧ Below w.heap.size w w') := fun w => winding_any [] w (Nat.zero_le _)
    have HL : Hid (([] : List Int).length ≤ 12) := Nat.zero_le _
    go_enter Try.func25, Try.ntmps25
    go_wp2_with fail
    refine (readSystem_no u l _ h HG.out).mono ?_
    rintro e w1 ⟨rfl, hb⟩
    go_wp2_with (first
      | ((with_reducible refine wp_storeNew rfl (.tmp 4) (.tmp 9) rfl _ [] (Nat.zero_le _) rfl rfl ?_); intro w2 hs2 hb2)
      | (with_reducible refine wp_loadSys rfl (.tmp 4) rfl w1.heap.size [] HL.out rfl hs2 ?_)
      | (go_at_call 47; refine (HF.out _).mono ?_; rintro e w3 ⟨rfl, hb3⟩))
    go_ret2
    exact ⟨rfl, Below.step (Below.step hb hb2) hb3⟩

set_option maxHeartbeats 1000000 in
theorem spWinding_any (v : Value) (l : List Int) (w : World) (h : Rd w v l) (h12 : l.length ≤ 12) : Calls Try.prog 46 #[v] w fun e w' => e = .returned (.int .i64 ((wnd l : Nat) : Int)) ∧ w = w' := by
  obtain ⟨a, c, rfl, hlc, hcm, hnc, hrd⟩ := h
  unfold wnd
  obtain ⟨n, hn⟩ : ∃ n, n = l.length := ⟨_, rfl⟩
  rw [← hn] at hlc h12 hrd ⊢
  unfold maxLen at hcm
  have HN := Lib.hid hn; have HC := Lib.hid hrd
  obtain ⟨q, hq⟩ : ∃ q, q = n / 2 := ⟨_, rfl⟩
  have hd : (n : Int) / 2 = (q : Int) := by omega
  have hqn : q ≤ n := by omega
  rw [← hq]
  have hq6 : q ≤ 6 := by omega
  clear hq hn hrd hnc
  have HY := Lib.hid (fun k h => wndN_yes (l := l) (q := q) (k := k) h)
  have HNO := Lib.hid (fun k h => wndN_no (l := l) (q := q) (k := k) h)
  have HLE := Lib.hid (wndN_le l q)
  go_enter Try.func46, Try.ntmps46
  go_wp2
  go_loop [3, 4] (fun c i => ∃ k z : Nat, k ≤ q ∧ i = .int .i64 k ∧ c = .int .i64 (z : Int) ∧ Hid (z = wndN l q k)) (fun _ i => q - (intOf i).toNat)
  case atStart => exact ⟨0, 0, by omega, rfl, rfl, Lib.hid rfl⟩
  case round =>
    obtain ⟨k, z, hk, rfl, rfl, HZ⟩ := hrel
    by_cases hlt : k < q
    · rcases HC.out with h0 | ⟨bb, off, rfl, hcell⟩
      · exfalso; have := HN.out; rw [h0] at this; simp at this; omega
      have hc1 := hcell k (by omega)
      have hz6 : z ≤ 6 := by have := HLE.out k; have := HZ.out; omega
      have hkn : k < n := by omega
      clear hcell
      by_cases hx : (q : Int) ≤ l.getD k 0
      · have HS := Lib.hid (HY.out k hx)
        generalize l.getD k 0 = x at hc1 hx
        go_wp2
        go_round
        case rel => exact ⟨k + 1, z + 1, by omega, by go_num, by go_num, Lib.hid (by rw [HS.out, HZ.out])⟩
        case measure => simp [intOf]; omega
      · have HS := Lib.hid (HNO.out k (by omega))
        generalize l.getD k 0 = x at hc1 hx
        go_wp2
        go_round
        case rel => exact ⟨k + 1, z, by omega, by go_num, rfl, Lib.hid (by rw [HS.out, HZ.out])⟩
        case measure => simp [intOf]; omega
    · obtain rfl : k = q := by omega
      go_wp2
      go_ret
      exact ⟨by rw [HZ.out]; rfl, rfl⟩

set_option maxHeartbeats 1000000 in
theorem spec_WindingOf (l : List Int) (w : World) (u : Value) (h : Rd w u l) (m : l.length ≤ 1048576) : Calls Try.prog 24 #[u] w (GivesN w (res_WindingOf l) (ok_WindingOf l)) := by
  unfold res_WindingOf ok_WindingOf
  have HA := Lib.hid (ahGood_any u l w h m)
  cases hg : goodB l with
  | true =>
    rw [hg] at HA
    simp only [if_true]
    have HS := Lib.hid (fun (w1 : World) (h1 : Rd w1 u l) => spWinding_any u l w1 h1 (good_len' hg))
    have H := Lib.hid h
    clear h hg
    go_enter Try.func24, Try.ntmps24
    go_wp2_with (first
      | (go_at_call 37; refine HA.out.mono ?_; rintro e w1 ⟨rfl, hb⟩)
      | (go_at_call 46; refine (HS.out _ (H.out.below hb)).mono ?_; rintro e w2 ⟨rfl, rfl⟩))
    go_ret2
    exact ⟨rfl, hb⟩
  | false =>
    rw [hg] at HA
    simp only [Bool.false_eq_true, if_false]
    clear h hg
    go_enter Try.func24, Try.ntmps24
    go_wp2_with (go_at_call 37; refine HA.out.mono ?_; rintro e w1 ⟨rfl, hb⟩)
    go_ret2
    exact ⟨rfl, hb⟩

end Go.Proofs.Ytodbjkfikbkkbac
