/- Systems with ranks, ranks of systems, the next ones: the program's functions and the model's. -/
import Derived.Test.YtbinpefogecgmaaSystems
import Derived.Test.YtbinpefogecgmaaJoin
import Derived.Test.YtbinpefogecgmaaRank
import Derived.Test.YtbinpefogecgmaaShift
namespace Go.Proofs.Ytbinpefogecgmaa
open Go.RowKit
set_option linter.unusedSimpArgs false
set_option linter.unusedVariables false

def ok_SystemWith (n r : Int) : Bool := inB n 0 6 && decide (0 ≤ r ∧ r < (catN n.toNat : Int))
def res_SystemWith (n r : Int) : List Int := if ok_SystemWith n r then rankedL n.toNat r.toNat else []
theorem len_SystemWith (n r : Int) : (res_SystemWith n r).length ≤ 1000000 := by
  unfold res_SystemWith
  split
  · next h =>
    simp only [ok_SystemWith, Bool.and_eq_true] at h
    have := inB_iff.1 h.1
    rw [rankedL_length]; omega
  · simp
theorem ranked_no {n r : Int} (h : ¬ (0 ≤ n ∧ n ≤ 6) ∨ r < 0 ∨ (catN n.toNat : Int) ≤ r) : ok_SystemWith n r = false ∧ res_SystemWith n r = [] := by
  have e : ok_SystemWith n r = false := by
    rw [ok_SystemWith, Bool.and_eq_false_iff]
    rcases h with h | h
    · exact .inl (inB_no h)
    · exact .inr (decide_eq_false (by omega))
  exact ⟨e, by simp [res_SystemWith, e]⟩
theorem ranked_yes {n r : Nat} (hn : n ≤ 6) (h : r < catN n) : ok_SystemWith (n : Int) (r : Int) = true ∧ res_SystemWith (n : Int) (r : Int) = rankedL n r := by
  have e : ok_SystemWith (n : Int) (r : Int) = true := by
    rw [ok_SystemWith, inB_yes (by omega) (by omega), Bool.true_and, Int.toNat_natCast]
    exact decide_eq_true (by omega)
  exact ⟨e, by rw [res_SystemWith, e, if_pos rfl, Int.toNat_natCast, Int.toNat_natCast]⟩

set_option maxHeartbeats 2000000 in
theorem impl_SystemWith (x y : Int) (w : World) (hx : -9223372036854775808 ≤ x ∧ x ≤ 9223372036854775807) (hy : -9223372036854775808 ≤ y ∧ y ≤ 9223372036854775807) : Calls Try.prog 9 #[.int .i64 x, .int .i64 y] w (Gives w (res_SystemWith x y) (ok_SystemWith x y)) := by
  by_cases h : 0 ≤ x ∧ x ≤ 6
  · obtain ⟨n, rfl⟩ := Int.eq_ofNat_of_zero_le h.1
    have hn : n ≤ 6 := by omega
    have hb := inB_yes h.1 h.2
    have hcat := fun w => catalan_N n hn w
    have bN := (catN_bd n hn).2
    have HB := Lib.hid hb; have HC := Lib.hid hcat
    clear hb h hcat
    by_cases h1 : 0 ≤ y ∧ y < (catN n : Int)
    · obtain ⟨r, rfl⟩ := Int.eq_ofNat_of_zero_le h1.1
      obtain ⟨e1, e2⟩ := ranked_yes hn (show r < catN n by omega)
      rw [e1, e2]
      have hrk := fun w => systemRanked_any n r w hn (by omega)
      have h12 : (rankedL n r).length ≤ 12 := by rw [rankedL_length]; omega
      generalize catN n = N at *
      generalize rankedL n r = L at *
      have HR := Lib.hid hrk; have HL := Lib.hid h12
      have h2 := h1.2
      clear hrk h12 e1 e2 h1
      go_enter Try.func9, Try.ntmps9
      go_wp2_with (first
        | (go_at_call 77; refine (isArchCount_any _ _).mono ?_; rintro e w' ⟨rfl, rfl⟩; rw [HB.out])
        | (go_at_call 78; ((with_reducible refine (HC.out _).mono ?_); rintro e w' ⟨rfl, rfl⟩))
        | (go_at_call 79; ((with_reducible refine (HR.out _).mono ?_); rintro e w2 ⟨rfl, hb2⟩))
        | (go_at_call 80; refine (list_any _ _ HL.out).mono ?_; rintro e w3 ⟨v, rfl, hv, hb3⟩))
      go_ret2
      exact ⟨_, rfl, hv.mono hb2.size, Below.step hb2 hb3⟩
    · obtain ⟨e1, e2⟩ := ranked_no (n := (n : Int)) (r := y) (.inr (by rw [Int.toNat_natCast]; omega))
      rw [e1, e2]
      generalize catN n = N at *
      clear e1 e2
      by_cases h2 : y < 0
      · clear h1
        go_enter Try.func9, Try.ntmps9
        go_wp2_with (go_at_call 77; refine (isArchCount_any _ _).mono ?_; rintro e w' ⟨rfl, rfl⟩; rw [HB.out])
        go_ret2
        exact ⟨_, rfl, Own.nil _ _, Below.refl _ _⟩
      · have h3 : (N : Int) ≤ y := by omega
        clear h1
        go_enter Try.func9, Try.ntmps9
        go_wp2_with (first
          | (go_at_call 77; refine (isArchCount_any _ _).mono ?_; rintro e w' ⟨rfl, rfl⟩; rw [HB.out])
          | (go_at_call 78; ((with_reducible refine (HC.out _).mono ?_); rintro e w' ⟨rfl, rfl⟩)))
        go_ret2
        exact ⟨_, rfl, Own.nil _ _, Below.refl _ _⟩
  · have hb := inB_no (lo := 0) (hi := 6) (n := x) h
    obtain ⟨e1, e2⟩ := ranked_no (n := x) (r := y) (.inl h)
    rw [e1, e2]
    have HB := Lib.hid hb; clear hb h e1 e2
    go_enter Try.func9, Try.ntmps9
    go_wp2_with (go_at_call 77; refine (isArchCount_any _ _).mono ?_; rintro e w' ⟨rfl, rfl⟩; rw [HB.out])
    go_ret2
    exact ⟨_, rfl, Own.nil _ _, Below.refl _ _⟩

theorem ahCount_N (n : Nat) (hn : n ≤ 6) (w : World) :
    Calls Try.prog 76 #[.int .i64 n] w fun e w' => e = .returned (.int .i64 (catN n : Int)) ∧ w = w' := by rw [← cat_N n hn]; exact ahCount_any n hn w

set_option maxHeartbeats 2000000 in
theorem spec_SystemWith (x y : Int) (w : World) (hx : -9223372036854775808 ≤ x ∧ x ≤ 9223372036854775807) (hy : -9223372036854775808 ≤ y ∧ y ≤ 9223372036854775807) : Calls Try.prog 10 #[.int .i64 x, .int .i64 y] w (Gives w (res_SystemWith x y) (ok_SystemWith x y)) := by
  by_cases h : 0 ≤ x ∧ x ≤ 6
  · obtain ⟨n, rfl⟩ := Int.eq_ofNat_of_zero_le h.1
    have hn : n ≤ 6 := by omega
    have hb := inB_yes h.1 h.2
    have hcat := fun w => ahCount_N n hn w
    have bN := catN_bd n hn
    have bN1 := bN.1; have bN2 := bN.2
    have HB := Lib.hid hb; have HC := Lib.hid hcat
    clear hb h hcat bN
    by_cases h1 : 0 ≤ y ∧ y < (catN n : Int)
    · obtain ⟨r, rfl⟩ := Int.eq_ofNat_of_zero_le h1.1
      obtain ⟨e1, e2⟩ := ranked_yes hn (show r < catN n by omega)
      rw [e1, e2]
      have hall : ∀ w, Calls Try.prog 82 #[.int .i64 (n : Int), .int .i64 0] w (MadeLL w (allL n)) := fun w => ahAll_any 7 n 0 w (by omega) (by omega) hn (by omega)
      have hlen := allL_length hn
      have hget := allL_get hn (show r < catN n by omega)
      generalize allL n = A at *
      generalize catN n = N at *
      generalize rankedL n r = L at *
      have HA := Lib.hid hall; have HG := Lib.hid hget; have HLN := Lib.hid hlen
      have h2 := h1.2
      have h3 : r < N := by omega
      clear hall hlen hget e1 e2 h1
      go_enter Try.func10, Try.ntmps10
      go_wp2_with (first
        | (go_at_call 72; refine (ahArches_any _ _).mono ?_; rintro e w' ⟨rfl, rfl⟩; rw [HB.out])
        | (go_at_call 76; ((with_reducible refine (HC.out _).mono ?_); rintro e w' ⟨rfl, rfl⟩))
        | (go_at_call 81; refine (l1In_any _ _ _ _).mono ?_; rintro e w' ⟨rfl, rfl⟩; rw [inB_yes (by omega) (by omega)])
        | (go_at_call 82; ((with_reducible refine (HA.out _).mono ?_); rintro e w1 ⟨v, vs, rfl, hown, hbel⟩; obtain ⟨a, c, rfl, hc1, hc2⟩ := hown.form; rw [HLN.out] at hc1 ⊢; obtain ⟨g, rfl, _, _, hcell, _⟩ := hown.at (by rw [HLN.out]; omega); have hc := hcell r (by rw [HLN.out]; exact h3); have hv := hown.own r (by rw [HLN.out]; exact h3); rw [HG.out] at hv; unfold maxLen at hc2; clear hcell hown)))
      go_ret2
      exact ⟨_, rfl, hv, hbel⟩
    · obtain ⟨e1, e2⟩ := ranked_no (n := (n : Int)) (r := y) (.inr (by rw [Int.toNat_natCast]; omega))
      rw [e1, e2]
      generalize catN n = N at *
      clear e1 e2
      go_enter Try.func10, Try.ntmps10
      go_wp2_with (first
        | (go_at_call 72; refine (ahArches_any _ _).mono ?_; rintro e w' ⟨rfl, rfl⟩; rw [HB.out])
        | (go_at_call 76; ((with_reducible refine (HC.out _).mono ?_); rintro e w' ⟨rfl, rfl⟩))
        | (go_at_call 81; refine (l1In_any _ _ _ _).mono ?_; rintro e w' ⟨rfl, rfl⟩; rw [inB_no (by omega)]))
      go_ret2
      exact ⟨_, rfl, Own.nil _ _, Below.refl _ _⟩
  · have hb := inB_no (lo := 0) (hi := 6) (n := x) h
    obtain ⟨e1, e2⟩ := ranked_no (n := x) (r := y) (.inl h)
    rw [e1, e2]
    have HB := Lib.hid hb; clear hb h e1 e2
    go_enter Try.func10, Try.ntmps10
    go_wp2_with (go_at_call 72; refine (ahArches_any _ _).mono ?_; rintro e w' ⟨rfl, rfl⟩; rw [HB.out])
    go_ret2
    exact ⟨_, rfl, Own.nil _ _, Below.refl _ _⟩

/-! ranks -/
def ok_RankSystem (l : List Int) : Bool := goodB l
def res_RankSystem (l : List Int) : Int := if goodB l then (rankOf l : Int) else 0

set_option maxHeartbeats 1000000 in
theorem impl_RankSystem (l : List Int) (w : World) (u : Value) (h : Rd w u l) (m : l.length ≤ 1048576) : Calls Try.prog 27 #[u] w (GivesN w (res_RankSystem l) (ok_RankSystem l)) := by
  unfold res_RankSystem ok_RankSystem
  cases hg : goodB l with
  | false =>
    have HG := Lib.hid hg; clear hg
    go_enter Try.func27, Try.ntmps27
    go_wp2_with fail
    refine (readSystem_no u l _ h HG.out).mono ?_
    rintro e w1 ⟨rfl, hb⟩
    go_wp2_with ((with_reducible refine wp_storeNew rfl (.tmp 4) (.tmp 9) rfl _ [] (Nat.zero_le _) rfl rfl ?_); intro w2 hs2 hb2)
    go_ret2
    exact ⟨rfl, Below.step hb hb2⟩
  | true =>
    have hl := good_len' hg
    have hev := (good_facts hg).1
    have hrk : ∀ w, Calls Try.prog 91 #[.agg (sysC l), .int .i64 0, .int .i64 ((l.length / 2 : Nat) : Int)] w (RankOut w (rankN 7 l 0 (l.length / 2))) := fun w => rank_any 7 0 (l.length / 2) l w hl (rank_facts hg).1 (by omega) (by omega)
    have HL := Lib.hid hl
    have HG := Lib.hid hg
    obtain ⟨n, hn⟩ : ∃ n, n = l.length := ⟨_, rfl⟩
    have HN := Lib.hid hn
    rw [← hn] at hrk hl hev
    have hro : rankN 7 l 0 (n / 2) = rankOf l := by rw [hn]; rfl
    rw [hro] at hrk
    have HR := Lib.hid hrk
    have hd : (n : Int) / 2 = ((n / 2 : Nat) : Int) := by omega
    have HD := Lib.hid hd
    clear hg hrk hn hro hd
    go_enter Try.func27, Try.ntmps27
    go_wp2_with fail
    refine (readSystem_yes u l _ h HG.out).mono ?_
    rintro e w1 ⟨rfl, hb⟩
    go_wp2_with (first
      | ((with_reducible refine wp_storeNew rfl (.tmp 4) (.tmp 9) rfl _ l HL.out rfl rfl ?_); intro w2 hs2 hb2; have hcs := hs2.size HL.out; rw [← HN.out] at hcs)
      | (with_reducible refine wp_loadSys rfl (.tmp 4) rfl w1.heap.size l HL.out rfl hs2 ?_)
      | (go_at_call 91; rw [HD.out]; ((with_reducible refine (HR.out _).mono ?_); rintro e w3 ⟨rfl, hb3⟩)))
    go_ret2
    exact ⟨rfl, Below.step (Below.step hb hb2) hb3⟩

set_option maxHeartbeats 2000000 in
theorem ahRank_any (l : List Int) (w : World) (u : Value) (h : Rd w u l) (hg : goodB l = true) : Calls Try.prog 93 #[u] w (RankOut w (rankOf l)) := by
  have hl := good_len' hg
  have hev := (good_facts hg).1
  have hall : ∀ w, Calls Try.prog 82 #[.int .i64 ((l.length / 2 : Nat) : Int), .int .i64 0] w (MadeLL w (allL (l.length / 2))) := fun w => ahAll_any 7 (l.length / 2) 0 w (by omega) (by omega) (by omega) (by omega)
  have hlen := allL_length (show l.length / 2 ≤ 6 by omega)
  have hbd := (catN_bd (l.length / 2) (by omega)).2
  have hlast := (rank_facts hg).2.2
  have h0 := h
  obtain ⟨a, c, rfl, hlc, hcm, hnc, hrd⟩ := h
  unfold maxLen at hcm
  obtain ⟨n, hn⟩ : ∃ n, n = l.length := ⟨_, rfl⟩
  rw [← hn] at hall hlen hbd hlast hl hev hlc h0 ⊢
  generalize allL (n / 2) = A at *
  generalize catN (n / 2) = N at *
  have hd : (n : Int) / 2 = ((n / 2 : Nat) : Int) := by omega
  have HD := Lib.hid hd; have HA := Lib.hid hall; have HLN := Lib.hid hlen; have HLA := Lib.hid hlast; have H0 := Lib.hid h0
  clear hd hall hlen hlast hn hrd hnc hg h0
  go_enter Try.func93, Try.ntmps93
  go_wp2_with (go_at_call 82; rw [HD.out]; ((with_reducible refine (HA.out _).mono ?_); rintro e w1 ⟨v, vs, rfl, hown, hbel⟩; obtain ⟨av, cv, rfl, hcv1, hcv2⟩ := hown.form; rw [HLN.out] at hcv1 hown ⊢; unfold maxLen at hcv2; have HW := Lib.hid hown; have HBL := Lib.hid hbel; clear hown hbel))
  go_loopw [3, 11] (fun r i wr => ∃ k q : Nat, k ≤ N ∧ i = .int .i64 (k : Int) ∧ r = .int .i64 (q : Int) ∧ Hid (q = lastAt l A k) ∧ OwnLL w.heap.size w1.heap.size wr (.slice av N cv) vs A ∧ Below w.heap.size w wr) (fun _ i _ => N - (intOf i).toNat)
  case atStart => exact ⟨0, 0, by omega, rfl, rfl, rfl, HW.out, HBL.out⟩
  case round =>
    obtain ⟨k, q, hk, rfl, rfl, HQ, hown, hbel⟩ := hrel
    clear HW HBL
    by_cases hlt : k < N
    · obtain ⟨g, rfl, _, _, hcell, _⟩ := hown.at (by rw [HLN.out]; omega)
      have hc1 := hcell k (by rw [HLN.out]; exact hlt)
      have hrow := (hown.own k (by rw [HLN.out]; exact hlt)).rd
      have hnext : lastAt l A (k + 1) = if l = A.getD k [] then k else lastAt l A k := rfl
      rw [← HQ.out] at hnext
      generalize rowV vs k = pv at hc1 hrow
      have HO := Lib.hid hown; have HBB := Lib.hid hbel
      clear hcell hown hbel
      by_cases he : l = A.getD k []
      · rw [if_pos he] at hnext
        have hsame := fun w h1 h2 => (l1Same_run (.slice a n c) pv l (A.getD k []) true w h1 h2 (decide_eq_true he)).mono fun _ _ h => h.below
        have HS := Lib.hid hsame; have HNX := Lib.hid hnext; have HRW := Lib.hid hrow
        clear hsame hnext hrow he
        go_wp2_with (go_at_call 130; ((with_reducible refine (HS.out _ (Rd.below H0.out HBB.out) HRW.out).mono ?_); rintro e w2 ⟨rfl, hb2⟩; have HB2 := Lib.hid hb2; clear hb2))
        go_roundw
        case rel => exact ⟨k + 1, k, by omega, by go_num, rfl, HNX.out.symm, HO.out.below HB2.out, Below.step HBB.out HB2.out⟩
        case measure => simp [intOf]; omega
      · rw [if_neg he] at hnext
        have hsame := fun w h1 h2 => (l1Same_run (.slice a n c) pv l (A.getD k []) false w h1 h2 (decide_eq_false he)).mono fun _ _ h => h.below
        have HS := Lib.hid hsame; have HNX := Lib.hid hnext; have HRW := Lib.hid hrow
        clear hsame hnext hrow he
        go_wp2_with (go_at_call 130; ((with_reducible refine (HS.out _ (Rd.below H0.out HBB.out) HRW.out).mono ?_); rintro e w2 ⟨rfl, hb2⟩; have HB2 := Lib.hid hb2; clear hb2))
        go_roundw
        case rel => exact ⟨k + 1, q, by omega, by go_num, rfl, HNX.out.symm, HO.out.below HB2.out, Below.step HBB.out HB2.out⟩
        case measure => simp [intOf]; omega
    · obtain rfl : k = N := by omega
      have hq : q = rankOf l := by rw [HQ.out]; exact HLA.out
      go_wp2
      go_ret
      exact ⟨by rw [← hq]; rfl, hbel⟩

def ok_NextSystem (l : List Int) : Bool := goodB l && ok_SystemWith ((l.length / 2 : Nat) : Int) ((rankOf l + 1 : Nat) : Int)
def res_NextSystem (l : List Int) : List Int := if goodB l then res_SystemWith ((l.length / 2 : Nat) : Int) ((rankOf l + 1 : Nat) : Int) else []
theorem len_NextSystem (l : List Int) : (res_NextSystem l).length ≤ 1000000 := by
  unfold res_NextSystem
  split
  · exact len_SystemWith _ _
  · simp

set_option maxHeartbeats 2000000 in
theorem spec_NextSystem (l : List Int) (w : World) (u : Value) (h : Rd w u l) (m : l.length ≤ 1048576) : Calls Try.prog 26 #[u] w (Gives w (res_NextSystem l) (ok_NextSystem l)) := by
  unfold res_NextSystem ok_NextSystem
  have hgood := fun w h => ahGood_any u l w h m
  have H0 := Lib.hid h
  cases hg : goodB l with
  | false =>
    simp only [hg] at hgood
    have HG := Lib.hid hgood; clear hg hgood h
    go_enter Try.func26, Try.ntmps26
    go_wp2_with (go_at_call 92; refine (HG.out _ H0.out).mono ?_; rintro e w1 ⟨rfl, hb⟩)
    go_ret2
    exact ⟨_, rfl, Own.nil _ _, hb⟩
  | true =>
    simp only [hg] at hgood
    have hr := fun w h => ahRank_any l w u h hg
    have hl := good_len' hg
    have hrb := (rank_facts hg).2.1
    have hb6 := (catN_bd (l.length / 2) (by omega)).2
    have hw := fun w => spec_SystemWith ((l.length / 2 : Nat) : Int) ((rankOf l + 1 : Nat) : Int) w (by omega) (by omega)
    simp only [if_true, Bool.true_and]
    generalize res_SystemWith ((l.length / 2 : Nat) : Int) ((rankOf l + 1 : Nat) : Int) = R at *
    generalize ok_SystemWith ((l.length / 2 : Nat) : Int) ((rankOf l + 1 : Nat) : Int) = K at *
    have hro : rankOf l ≤ 132 := by omega
    generalize rankOf l = rk at *
    obtain ⟨a, c, rfl, hlc, hcm, hnc, hrd⟩ := h
    unfold maxLen at hcm
    obtain ⟨n, hn⟩ : ∃ n, n = l.length := ⟨_, rfl⟩
    rw [← hn] at hw hl hgood hr hlc H0 ⊢
    have hd : (n : Int) / 2 = ((n / 2 : Nat) : Int) := by omega
    have hd2 : (rk : Int) + 1 = ((rk + 1 : Nat) : Int) := by omega
    have HD := Lib.hid hd; have HD2 := Lib.hid hd2
    have HR := Lib.hid hr; have HW := Lib.hid hw
    have HG := Lib.hid hgood; clear hg hgood hr hw hrb hb6 hn hd hd2 hrd hnc
    go_enter Try.func26, Try.ntmps26
    go_wp2_with (first
      | (go_at_call 92; refine (HG.out _ H0.out).mono ?_; rintro e w1 ⟨rfl, hb⟩)
      | (go_at_call 93; ((with_reducible refine (HR.out _ (Rd.below H0.out hb)).mono ?_); rintro e w2 ⟨rfl, hb2⟩))
      | (go_at_call 10; rw [HD.out, HD2.out]; ((with_reducible refine (HW.out _).mono ?_); rintro e w3 ⟨v3, rfl, hown3, hb3⟩)))
    go_ret2
    exact ⟨_, rfl, hown3.mono (Below.step hb hb2).size, Below.step (Below.step hb hb2) hb3⟩

set_option maxHeartbeats 4000000 in
theorem impl_NextSystem (l : List Int) (w : World) (u : Value) (h : Rd w u l) (m : l.length ≤ 1048576) : Calls Try.prog 25 #[u] w (Gives w (res_NextSystem l) (ok_NextSystem l)) := by
  unfold res_NextSystem ok_NextSystem
  cases hg : goodB l with
  | false =>
    have HG := Lib.hid hg; clear hg
    go_enter Try.func25, Try.ntmps25
    go_wp2_with fail
    refine (readSystem_no u l _ h HG.out).mono ?_
    rintro e w1 ⟨rfl, hb⟩
    go_wp2_with ((with_reducible refine wp_storeNew rfl (.tmp 4) (.tmp 9) rfl _ [] (Nat.zero_le _) rfl rfl ?_); intro w2 hs2 hb2)
    go_ret2
    exact ⟨_, rfl, Own.nil _ _, Below.step hb hb2⟩
  | true =>
    have hl := good_len' hg
    have hev := (good_facts hg).1
    have hrk : ∀ w, Calls Try.prog 91 #[.agg (sysC l), .int .i64 0, .int .i64 ((l.length / 2 : Nat) : Int)] w (RankOut w (rankN 7 l 0 (l.length / 2))) := fun w => rank_any 7 0 (l.length / 2) l w hl (rank_facts hg).1 (by omega) (by omega)
    have hrb := (rank_facts hg).2.1
    have hb6 := (catN_bd (l.length / 2) (by omega)).2
    have hw := fun w => impl_SystemWith ((l.length / 2 : Nat) : Int) ((rankOf l + 1 : Nat) : Int) w (by omega) (by omega)
    simp only [if_true, Bool.true_and]
    generalize res_SystemWith ((l.length / 2 : Nat) : Int) ((rankOf l + 1 : Nat) : Int) = R at *
    generalize ok_SystemWith ((l.length / 2 : Nat) : Int) ((rankOf l + 1 : Nat) : Int) = K at *
    have hro : rankOf l ≤ 132 := by omega
    have HL := Lib.hid hl
    have HG := Lib.hid hg
    have hlit := sysC_lit hl
    rw [show sysV l 12 = .int .i64 (l.length : Int) from rfl] at hlit
    obtain ⟨n, hn⟩ : ∃ n, n = l.length := ⟨_, rfl⟩
    have HN := Lib.hid hn
    rw [← hn] at hrk hl hev hw hlit
    have hrr : rankN 7 l 0 (n / 2) = rankOf l := by rw [hn]; rfl
    rw [hrr] at hrk
    have hs12 : sysV l 12 = .int .i64 (n : Int) := by rw [hn]; rfl
    have HS12 := Lib.hid hs12
    generalize rankOf l = rk at *
    have HR := Lib.hid hrk; have HW := Lib.hid hw
    have hd : (n : Int) / 2 = ((n / 2 : Nat) : Int) := by omega
    have hd2 : (rk : Int) + 1 = ((rk + 1 : Nat) : Int) := by omega
    have HD := Lib.hid hd; have HD2 := Lib.hid hd2; have HLIT := Lib.hid hlit
    clear hg hrk hn hrr hd hd2 hw hrb hb6 hlit hs12
    go_enter Try.func25, Try.ntmps25
    go_wp2_with fail
    refine (readSystem_yes u l _ h HG.out).mono ?_
    rintro e w1 ⟨rfl, hb⟩
    go_wp2_with ((with_reducible refine wp_storeNew rfl (.tmp 4) (.tmp 9) rfl _ l HL.out rfl rfl ?_); intro w2 hs2 hb2; have HB2 := Lib.hid (Below.step hb hb2); have HS2 := Lib.hid hs2; clear hs2 hb2)
    have s1 : IntKind.i64.wrap ((rk : Int) + 1) = (rk : Int) + 1 := IntWalk.i64_in _ (by omega)
    have s2 : (n : Int) / 2 ≤ 6 := by omega
    have s3 : 0 ≤ (n : Int) / 2 := by omega
    have s4 : IntKind.i64.wrap ((n : Int) / 2) = (n : Int) / 2 := IntWalk.i64_in _ (by omega)
    have HS3 : Hid (SysIn w2.drew w1.heap.size l) := HS2.out
    go_region_held3 (fun w' => Hid (SysIn w' w1.heap.size l ∧ Below w.heap.size w w') ∧ w'.cell? ⟨w1.heap.size, 0, none⟩ = some (sysV l 0) ∧ w'.cell? ⟨w1.heap.size, 1, none⟩ = some (sysV l 1) ∧ w'.cell? ⟨w1.heap.size, 2, none⟩ = some (sysV l 2) ∧ w'.cell? ⟨w1.heap.size, 3, none⟩ = some (sysV l 3) ∧ w'.cell? ⟨w1.heap.size, 4, none⟩ = some (sysV l 4) ∧ w'.cell? ⟨w1.heap.size, 5, none⟩ = some (sysV l 5) ∧ w'.cell? ⟨w1.heap.size, 6, none⟩ = some (sysV l 6) ∧ w'.cell? ⟨w1.heap.size, 7, none⟩ = some (sysV l 7) ∧ w'.cell? ⟨w1.heap.size, 8, none⟩ = some (sysV l 8) ∧ w'.cell? ⟨w1.heap.size, 9, none⟩ = some (sysV l 9) ∧ w'.cell? ⟨w1.heap.size, 10, none⟩ = some (sysV l 10) ∧ w'.cell? ⟨w1.heap.size, 11, none⟩ = some (sysV l 11) ∧ w'.cell? ⟨w1.heap.size, 12, none⟩ = some (.int .i64 (n : Int)))
      (first | assumption | exact next_cells HS12.out HL.out HS3.out (Below.drew HB2.out) | exact next_keep HS12.out HL.out (by assumption) (by assumption))
      (first
        | (go_at_call 91; (try rw [← HLIT.out]); (try rw [HD.out]); ((with_reducible refine (HR.out _).mono ?_); rintro e' w' ⟨rfl, hb'⟩))
        | (go_at_call 9; (try rw [HD.out]); rw [HD2.out]; ((with_reducible refine (HW.out _).mono ?_); rintro e' w' ⟨v3, rfl, hown3, hb'⟩)))
    have hB : Below w.heap.size w w' := next_out (b := w1.heap.size) (n := n) (l := l) (by assumption)
    have HBB := Lib.hid hB; clear hB
    go_wp2
    go_ret2
    exact ⟨_, rfl, hown3.mono (Nat.le_trans HB2.out.size (Below.size (B := w2.drew.heap.size) (w := w2.drew) (by assumption))), HBB.out⟩

end Go.Proofs.Ytbinpefogecgmaa
