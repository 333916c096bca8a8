/- The model's siClosed, siStretch, siInner, siOuter, siInside, siOutside. -/
/- The model's siAll, siShortest, siWhole. -/
/- The model's siShortest and siWhole; IsWhole, ShortestClosed, ClosedStretches of the model. -/
import Derived.Test.YtogjclmmjdhfeabCutIs
import Derived.Test.YtogjclmmjdhfeabNum
import Derived.Test.YtogjclmmjdhfeabSpan
import Derived.Test.YtogjclmmjdhfeabSlice
import Derived.RegionTactic
import Derived.Deep.RegionWith
import Derived.Test.YtogjclmmjdhfeabCutMath
import Derived.Test.YtogjclmmjdhfeabListsLaw
import Derived.BigRegion
import Derived.Deep.QuietTactic
import Derived.BigQuiet
import Derived.Deep.MidRow
namespace Go.Proofs.Ytogjclmmjdhfeab
open Go.RowKit
set_option linter.unusedSimpArgs false
set_option linter.unusedVariables false

set_option maxHeartbeats 2000000 in
theorem siStretch_any (t b : List Int) (i j : Int) (w : World) (u1 u2 : Value) (h1 : Rd w u1 t) (h2 : Rd w u2 b) (m1 : t.length ≤ 1048576) (m2 : b.length ≤ 1048576) :
    Calls Try.prog 125 #[.agg #[u1, u2], .int .i64 i, .int .i64 j] w (Tells w (ok_IsClosed t b i j)) := by
  unfold ok_IsClosed
  have hA := Box2.new 26 w u1 u2
  have B1 : Below w.heap.size w (w.alloc (.cells #[u1, u2] 26)) := Below.alloc1 w _
  have k0 := hA.c0; have k1 := hA.c1
  have hrd := mePair_any t b _ u1 u2 (h1.below B1) (h2.below B1) m1 m2
  have HB := Lib.hid B1; have HA := Lib.hid hA
  have hln : ∃ a c, u1 = .slice a t.length c ∧ t.length ≤ c := by obtain ⟨a, c, rfl, h3, _⟩ := h1; exact ⟨a, c, rfl, h3⟩
  obtain ⟨a1, c1, rfl, hc1⟩ := hln
  have hR : ∀ R : Bool, inS t.length i j = R → (inB j 0 ((t.length : Int) - 1) && inB i 0 ((t.length : Int) - 1) && decide (i < j)) = R := by
    intro R h
    rw [← h]
    unfold inS inB
    rw [Bool.eq_iff_iff]
    simp only [Bool.and_eq_true, decide_eq_true_eq]
    omega
  obtain ⟨R, hRe⟩ : ∃ R, inS t.length i j = R := ⟨_, rfl⟩
  have hS := hR R hRe
  rw [hRe]
  generalize t.length = n at *
  clear hA B1 h1 h2 hR hRe
  cases e1 : pairOk t b with
  | false =>
    rw [e1] at hrd
    have HR := Lib.hid hrd; clear hrd e1 hS
    go_enter Try.func125, Try.ntmps125
    go_wp2_with fail
    refine HR.out.mono ?_
    rintro e w1 ⟨rfl, hb1⟩
    go_wp2
    go_ret
    exact ⟨rfl, Below.step HB.out hb1⟩
  | true =>
    rw [e1] at hrd
    have HR := Lib.hid hrd; clear hrd e1
    cases hX : inB j 0 ((n : Int) - 1) with
    | false =>
      rw [hX] at hS
      obtain rfl : R = false := by rw [← hS]; rfl
      have HX := Lib.hid hX; clear hX hS
      go_enter Try.func125, Try.ntmps125
      go_wp2_with fail
      refine HR.out.mono ?_
      rintro e w1 ⟨rfl, hb1⟩
      have m0 := (HA.out.below hb1).c0; have m1 := (HA.out.below hb1).c1
      go_wp2_with (go_at_call 89; refine (l1In_any _ _ _ _).mono ?_; rintro e w' ⟨rfl, rfl⟩; first | rw [HX.out] | skip)
      go_ret
      exact ⟨rfl, Below.step HB.out hb1⟩
    | true =>
      cases hY : inB i 0 ((n : Int) - 1) with
      | false =>
        rw [hX, hY] at hS
        obtain rfl : R = false := by rw [← hS]; rfl
        have HX := Lib.hid hX; have HY := Lib.hid hY; clear hX hY hS
        go_enter Try.func125, Try.ntmps125
        go_wp2_with fail
        refine HR.out.mono ?_
        rintro e w1 ⟨rfl, hb1⟩
        have m0 := (HA.out.below hb1).c0; have m1 := (HA.out.below hb1).c1
        go_wp2_with (go_at_call 89; refine (l1In_any _ _ _ _).mono ?_; rintro e w' ⟨rfl, rfl⟩; first | rw [HX.out] | rw [HY.out])
        go_ret
        exact ⟨rfl, Below.step HB.out hb1⟩
      | true =>
        rw [hX, hY] at hS
        have hD : decide (i < j) = R := by rw [← hS]; rfl
        have HX := Lib.hid hX; have HY := Lib.hid hY; clear hX hY hS
        go_enter Try.func125, Try.ntmps125
        go_wp2_with fail
        refine HR.out.mono ?_
        rintro e w1 ⟨rfl, hb1⟩
        have m0 := (HA.out.below hb1).c0; have m1 := (HA.out.below hb1).c1
        go_wp2_with (go_at_call 89; refine (l1In_any _ _ _ _).mono ?_; rintro e w' ⟨rfl, rfl⟩; first | rw [HX.out] | rw [HY.out])
        go_ret
        refine ⟨?_, Below.step HB.out hb1⟩
        rw [← hD]; rfl

theorem closed_stepS {t b : List Int} {i j k : Nat} {R : Bool} (hk : k ≤ j) (h : allFrom (clP t b i j) k (j + 1 - k) = R) : (clP t b i j k = true → allFrom (clP t b i j) (k + 1) (j + 1 - (k + 1)) = R) ∧ (clP t b i j k = false → R = false) := by
  rw [show j + 1 - k = (j + 1 - (k + 1)) + 1 by omega, allFrom] at h
  exact ⟨fun e => by rw [e] at h; simpa using h, fun e => by rw [e] at h; simpa using h.symm⟩
set_option maxHeartbeats 2000000 in
theorem siClosed_any (t b : List Int) (i j : Nat) (hij : i < j) (hj : j < t.length) (hl : t.length = b.length) (h12 : t.length ≤ 12) (w : World) (u1 u2 : Value) (h1 : Rd w u1 t) (h2 : Rd w u2 b) :
    Calls Try.prog 126 #[.agg #[u1, u2], .int .i64 (i : Int), .int .i64 (j : Int)] w (Tells w (closedL t b i j)) := by
  obtain ⟨R, hR⟩ : ∃ R, closedL t b i j = R := ⟨_, rfl⟩
  rw [hR]
  unfold closedL at hR
  have hA := Box2.new 26 w u1 u2
  have B1 : Below w.heap.size w (w.alloc (.cells #[u1, u2] 26)) := Below.alloc1 w _
  have H1 := h1.below B1; have H2 := h2.below B1
  obtain ⟨a1, c1, rfl, hc1, hm1, _, hd1⟩ := H1
  obtain ⟨a2, c2, rfl, hc2, hm2, _, hd2⟩ := H2
  rcases hd1 with h0 | ⟨g1, o1, rfl, hcell1⟩
  · exfalso; rw [h0] at hj; simp at hj
  rcases hd2 with h0 | ⟨g2, o2, rfl, hcell2⟩
  · exfalso; rw [hl, h0] at hj; simp at hj
  clear h1 h2
  generalize hbn : b.length = nb at *
  subst hl
  generalize hn : t.length = n at *
  unfold maxLen at hm1 hm2
  have k0 := hA.c0; have k1 := hA.c1
  have HR := Lib.hid hR; have HC1 := Lib.hid hcell1; have HC2 := Lib.hid hcell2; have HN := Lib.hid hn; have HB := Lib.hid B1; have HBN := Lib.hid hbn
  clear hR hcell1 hcell2 hn hA B1 hbn
  go_enter Try.func126, Try.ntmps126
  go_wp2
  generalize w.alloc (.cells #[.slice (some ⟨g1, o1, none⟩) n c1, .slice (some ⟨g2, o2, none⟩) n c2] 26) = W1 at *
  go_loop [7] (fun x => ∃ k : Nat, i ≤ k ∧ k ≤ j + 1 ∧ x = .int .i64 (k : Int) ∧ Hid (allFrom (clP t b i j) k (j + 1 - k) = R)) (fun x => j + 1 - (intOf x).toNat)
  case atStart => exact ⟨i, by omega, by omega, rfl, HR.out⟩
  case round =>
    obtain ⟨k, hik, hk, rfl, HK⟩ := hrel
    clear HR
    by_cases hlt : k ≤ j
    · have hst := closed_stepS hlt HK.out
      have hcl : clP t b i j k = (inB (t.getD k 0) i j && inB (b.getD k 0) i j) := rfl
      have p1 := HC1.out k (by omega)
      have p2 := HC2.out k (by omega)
      generalize t.getD k 0 = x at *
      generalize b.getD k 0 = y at *
      generalize clP t b i j k = c at *
      have hkn : k < n := by omega
      have HST := Lib.hid hst; have HCL := Lib.hid hcl
      clear HK hst hcl
      cases hX : inB x i j with
      | false =>
        rw [hX] at HCL
        have HX := Lib.hid hX; clear hX
        go_wp2_with (go_at_call 89; refine (l1In_any _ _ _ _).mono ?_; rintro e w' ⟨rfl, rfl⟩; rw [HX.out])
        go_ret
        exact ⟨by rw [HST.out.2 HCL.out]; first | done | rfl, HB.out⟩
      | true =>
        have HX := Lib.hid hX
        cases hY : inB y i j with
        | false =>
          rw [hX, hY] at HCL
          have HY := Lib.hid hY; clear hX hY
          go_wp2_with (go_at_call 89; refine (l1In_any _ _ _ _).mono ?_; rintro e w' ⟨rfl, rfl⟩; first | rw [HX.out] | rw [HY.out])
          go_ret
          exact ⟨by rw [HST.out.2 HCL.out]; first | done | rfl, HB.out⟩
        | true =>
          rw [hX, hY] at HCL
          have HY := Lib.hid hY; clear hX hY
          go_wp2_with (go_at_call 89; refine (l1In_any _ _ _ _).mono ?_; rintro e w' ⟨rfl, rfl⟩; first | rw [HX.out] | rw [HY.out])
          go_round
          case rel => exact ⟨k + 1, by omega, by omega, by go_num, HST.out.1 HCL.out⟩
          case measure => simp [intOf]; omega
    · obtain rfl : k = j + 1 := by omega
      have hK := HK.out
      rw [Nat.sub_self] at hK
      have HT : Hid (R = true) := hK.symm
      clear HK hK
      go_wp2
      go_ret
      exact ⟨by rw [HT.out]; first | done | rfl, HB.out⟩

theorem innerL_getD {l : List Int} {i j : Nat} (hij : i < j) (hj : j < l.length) {k : Nat} (hk : k < j + 1 - i) : (innerL l i j).getD k 0 = l.getD (i + k) 0 - (i : Int) := by
  have h1 : i + k < l.length := by omega
  simp [innerL, List.getD, hk, h1]
theorem take_nextI (L : List Int) (k : Nat) (h : k < L.length) : L.take (k + 1) = L.take k ++ [L.getD k 0] := by
  rw [List.take_succ_eq_append_getElem h]; simp [List.getD, h]
set_option maxHeartbeats 2000000 in
theorem siInner_any (l : List Int) (i j : Nat) (hij : i < j) (hj : j < l.length) (h12 : l.length ≤ 12) (hr : ∀ k, k < l.length → 0 ≤ l.getD k 0 ∧ l.getD k 0 < 12) (w : World) (u : Value) (h : Rd w u l) :
    Calls Try.prog 191 #[u, .int .i64 (i : Int), .int .i64 (j : Int)] w (Made w (innerL l i j)) := by
  obtain ⟨a1, c1, rfl, hc1, hm1, _, hd1⟩ := h
  rcases hd1 with h0 | ⟨g1, o1, rfl, hcell1⟩
  · exfalso; rw [h0] at hj; simp at hj
  unfold maxLen at hm1
  have hlen := innerL_length hij hj
  have HG := Lib.hid (fun k (hk : k < j + 1 - i) => innerL_getD (l := l) hij hj hk)
  generalize innerL l i j = A at *
  have HTK := Lib.hid (fun k h => take_nextI A k h)
  obtain ⟨m, hm⟩ : ∃ m, m = j + 1 - i := ⟨_, rfl⟩
  have hfull : A.take m = A := List.take_of_length_le (by omega)
  rw [← hfull]
  have HC := Lib.hid hcell1; have HR := Lib.hid hr
  have HAL : Hid (A.length = m) := by show _ = _; omega
  have hjm : i + m = j + 1 := by omega
  clear hfull hlen hcell1 hr
  obtain ⟨n, hn⟩ : ∃ n, n = l.length := ⟨_, rfl⟩
  rw [← hn] at *
  have HN := Lib.hid hn; clear hn
  rw [← hm] at HG
  clear hm
  have b1 : (0 : Int) ≤ (i : Int) := by omega
  have b2 : (i : Int) ≤ (j : Int) + 1 := by omega
  have b3 : (j : Int) + 1 ≤ (c1 : Int) := by omega
  go_enter Try.func191, Try.ntmps191
  go_wp2
  have HJ : Hid (m = j + 1 - i) := by show _ = _; omega
  rw [← HJ.out]
  clear b1 b2 b3
  go_loopw [7, 16] (fun o x wr => ∃ k : Nat, k ≤ m ∧ x = .int .i64 (k : Int) ∧ Own w.heap.size wr o (A.take k) ∧ Below w.heap.size w wr) (fun _ x _ => m - (intOf x).toNat)
  case atStart => exact ⟨0, by omega, rfl, by simpa using Own.nil _ _, Below.refl _ _⟩
  case round =>
    obtain ⟨k, hk, rfl, hown, hbel⟩ := hrel
    have hsz := hbel.size
    by_cases hlt : k < m
    · have hsrc : wr.cell? ⟨g1, o1 + i + k, none⟩ = some (.int .i64 (l.getD (i + k) 0)) := by
        have := HC.out (i + k) (by omega)
        rw [Nat.add_assoc]
        exact (hbel.cell (p := ⟨g1, o1 + (i + k), none⟩) (World.block_lt_of_cell? w _ this)).trans this
      have hx := HR.out (i + k) (by omega)
      have hnx := HTK.out k (by rw [HAL.out]; exact hlt)
      have hg := HG.out k hlt
      rw [hg] at hnx
      have hlen : (A.take k).length = k := by rw [List.length_take, HAL.out]; omega
      generalize l.getD (i + k) 0 = x at *
      have HNX := Lib.hid hnx; have HL := Lib.hid hlen
      clear hnx hg hlen
      generalize A.take k = S at *
      go_wp2_with (at_builtin; refine wp_append _ rfl _ _ rfl w.heap.size _ _ S [x - (i : Int)] rfl rfl (Own.below hown (Below.alloc1 _ _)) (Own.rd (Own.lit1 _ _ _ (Nat.le_refl _))) (by rw [HL.out]; simp; omega) (by simp; omega) ?_; intro v' w2 hown2 hgr hbel2; rw [← HNX.out] at hown2; have hbel3 := (hbel.alloc hsz _).trans hbel2; clear hgr hbel2)
      go_roundw
      case rel => exact ⟨k + 1, by omega, by go_num, hown2, hbel3⟩
      case measure => simp [intOf]; omega
    · obtain rfl : k = m := by omega
      go_wp2
      go_ret
      exact ⟨_, rfl, hown, hbel⟩

set_option maxHeartbeats 2000000 in
theorem siOuter_any (l : List Int) (i j : Nat) (hij : i < j) (hj : j < l.length) (h12 : l.length ≤ 12) (hr : ∀ k, k < l.length → 0 ≤ l.getD k 0 ∧ l.getD k 0 < 12) (w : World) (u : Value) (h : Rd w u l) :
    Calls Try.prog 193 #[u, .int .i64 (i : Int), .int .i64 (j : Int)] w (Made w (outerL l i j)) := by
  obtain ⟨a1, c1, rfl, hc1, hm1, _, hd1⟩ := h
  rcases hd1 with h0 | ⟨g1, o1, rfl, hcell1⟩
  · exfalso; rw [h0] at hj; simp at hj
  unfold maxLen at hm1
  unfold outerL
  have HC := Lib.hid hcell1; have HR := Lib.hid hr
  have HLE := Lib.hid (fun k => outerK_le l i j k)
  have HNXT : Hid (∀ k, outerK l i j (k + 1) = outerK l i j k ++ if inB (k : Int) i j then [] else [outS i j (l.getD k 0)]) := fun k => rfl
  clear hcell1 hr
  generalize hn : l.length = n at *
  have HN := Lib.hid hn; clear hn
  go_enter Try.func193, Try.ntmps193
  go_wp2
  go_loopw [7, 12] (fun o x wr => ∃ k : Nat, k ≤ n ∧ x = .int .i64 (k : Int) ∧ Own w.heap.size wr o (outerK l i j k) ∧ Below w.heap.size w wr) (fun _ x _ => n - (intOf x).toNat)
  case atStart => exact ⟨0, by omega, rfl, Own.nil _ _, Below.refl _ _⟩
  case round =>
    obtain ⟨k, hk, rfl, hown, hbel⟩ := hrel
    have hsz := hbel.size
    by_cases hlt : k < n
    · have hsrc : wr.cell? ⟨g1, o1 + k, none⟩ = some (.int .i64 (l.getD k 0)) := by
        have := HC.out k hlt
        exact (hbel.cell (p := ⟨g1, o1 + k, none⟩) (World.block_lt_of_cell? w _ this)).trans this
      have hx := HR.out k hlt
      have hnx := HNXT.out k
      have hle := HLE.out k
      generalize l.getD k 0 = x at *
      cases hI : inB (k : Int) i j with
      | true =>
        rw [hI, if_pos rfl, List.append_nil] at hnx
        have HI := Lib.hid hI; have HNX := Lib.hid hnx; clear hnx hI
        go_wp2_with (go_at_call 89; refine (l1In_any _ _ _ _).mono ?_; rintro e w' ⟨rfl, rfl⟩; rw [HI.out])
        rw [← HNX.out] at hown
        go_roundw
        case rel => exact ⟨k + 1, by omega, by go_num, hown, hbel⟩
        case measure => simp [intOf]; omega
      | false =>
        rw [hI] at hnx
        simp only [Bool.false_eq_true, if_false] at hnx
        have HI := Lib.hid hI; clear hI
        generalize outerK l i j k = S at *
        have HL := Lib.hid hle; clear hle
        by_cases hxj : (j : Int) < x
        · have ho : outS i j x = x - ((j : Int) - i + 1) := by unfold outS; rw [if_pos hxj]
          rw [ho] at hnx
          have HNX := Lib.hid hnx; clear hnx ho
          go_wp2_with (first
            | (go_at_call 89; refine (l1In_any _ _ _ _).mono ?_; rintro e w' ⟨rfl, rfl⟩; rw [HI.out])
            | (at_builtin; refine wp_append _ rfl _ _ rfl w.heap.size _ _ S [x - ((j : Int) - i + 1)] rfl rfl (Own.below hown (Below.alloc1 _ _)) (Own.rd (Own.lit1 _ _ _ (Nat.le_refl _))) (by have := HL.out; simp; omega) (by simp; omega) ?_; intro v' w2 hown2 hgr hbel2; rw [← HNX.out] at hown2; have hbel3 := (hbel.alloc hsz _).trans hbel2; clear hgr hbel2))
          go_roundw
          case rel => exact ⟨k + 1, by omega, by go_num, hown2, hbel3⟩
          case measure => simp [intOf]; omega
        · have ho : outS i j x = x := by unfold outS; rw [if_neg hxj]
          rw [ho] at hnx
          have HNX := Lib.hid hnx; clear hnx ho
          go_wp2_with (first
            | (go_at_call 89; refine (l1In_any _ _ _ _).mono ?_; rintro e w' ⟨rfl, rfl⟩; rw [HI.out])
            | (at_builtin; refine wp_append _ rfl _ _ rfl w.heap.size _ _ S [x] rfl rfl (Own.below hown (Below.alloc1 _ _)) (Own.rd (Own.lit1 _ _ _ (Nat.le_refl _))) (by have := HL.out; simp; omega) (by simp; omega) ?_; intro v' w2 hown2 hgr hbel2; rw [← HNX.out] at hown2; have hbel3 := (hbel.alloc hsz _).trans hbel2; clear hgr hbel2))
          go_roundw
          case rel => exact ⟨k + 1, by omega, by go_num, hown2, hbel3⟩
          case measure => simp [intOf]; omega
    · obtain rfl : k = n := by omega
      go_wp2
      go_ret
      exact ⟨_, rfl, hown, hbel⟩

theorem results_siInside (tmps : Array Value) (w : World) (g : Nat) (v1 v2 : Value) (hg : Box2 26 w g v1 v2) (h2 : tmps.getD 6 undef = .pointer (some ⟨g, 0, none⟩)) :
    (results Try.f127 tmps).run Try.prog w = .ok (.agg #[v1, v2]) w :=
  results_cell_row (by kernel_rfl) tmps w g _ #[v1, v2] _ _ h2 hg Try.underlying26 rfl (by rw [mea_info]; rfl)
set_option maxHeartbeats 4000000 in
theorem siInside_any (t b : List Int) (i j : Nat) (hg : goodP t b) (hij : i < j) (hj : j < t.length) (w : World) (u1 u2 : Value) (h1 : Rd w u1 t) (h2 : Rd w u2 b) :
    Calls Try.prog 127 #[.agg #[u1, u2], .int .i64 (i : Int), .int .i64 (j : Int)] w (MadeM w (innerL t i j) (innerL b i j)) := by
  have hrg : ∀ l : List Int, goodB l = true → ∀ k, k < l.length → 0 ≤ l.getD k 0 ∧ l.getD k 0 < 12 := fun l h k hk => by have := (good_facts h).2.2.1 k hk; have := good_len' h; omega
  have HT := Lib.hid (fun w u h => siInner_any t i j hij hj (good_len' hg.1) (hrg t hg.1) w u h)
  have HBT := Lib.hid (fun w u h => siInner_any b i j hij (by rw [← hg.2.2]; exact hj) (good_len' hg.2.1) (hrg b hg.2.1) w u h)
  generalize innerL t i j = T at *
  generalize innerL b i j = B at *
  have hz := Box2.below (Box2.new 26 w u1 u2) (Below.alloc1 _ (.cells #[.slice none 0 0, .slice none 0 0] 26))
  have hR := Box2.new 26 (w.alloc (.cells #[u1, u2] 26)) (.slice none 0 0) (.slice none 0 0)
  rw [World.size_alloc] at hR
  have B2 := Below.step (Below.alloc1 w (.cells #[u1, u2] 26)) (Below.alloc1 _ (.cells #[.slice none 0 0, .slice none 0 0] 26))
  have e0 := hz.c0; have e1 := hz.c1
  have f0 := hR.c0; have f1 := hR.c1; have f2 := hR.free 0; have f3 := hR.free 1
  have H1 := Lib.hid (h1.below B2); have H2 := Lib.hid (h2.below B2)
  have HZ := Lib.hid hz; have HR := Lib.hid hR; have HB := Lib.hid B2
  obtain ⟨a1, n1, c1, rfl⟩ : ∃ a n c, u1 = .slice a n c := by obtain ⟨a, c, e, _⟩ := h1; exact ⟨a, _, c, e⟩
  obtain ⟨a2, n2, c2, rfl⟩ : ∃ a n c, u2 = .slice a n c := by obtain ⟨a, c, e, _⟩ := h2; exact ⟨a, _, c, e⟩
  clear hz hR B2 h1 h2 hrg hg hij hj
  go_enter Try.func127, Try.ntmps127
  go_wp2_with fail
  generalize ((w.alloc (.cells #[.slice a1 n1 c1, .slice a2 n2 c2] 26)).alloc (.cells #[.slice none 0 0, .slice none 0 0] 26)) = W2 at *
  go_region_with (first
    | (go_at_call 191; ((with_reducible refine (HT.out _ _ (H1.out.below ((Below.refl _ W2).drew))).mono ?_); rintro e w1 ⟨v1, rfl, ho1, hb1⟩; obtain ⟨x1, y1, z1, rfl⟩ := ho1.form'; have HO1 := Lib.hid ho1; have hb1' : Below W2.heap.size W2 w1 := ((Below.refl _ W2).drew).trans hb1; have HR1 := Lib.hid (HR.out.below hb1'); have HB1 := Lib.hid (Below.step HB.out hb1'); have HX := Lib.hid hb1'; have d0 := (HZ.out.below hb1').c0; have d1 := (HZ.out.below hb1').c1; clear ho1 hb1 hb1'))
    | (go_at_call 191; ((with_reducible refine (HBT.out _ _ (H2.out.below HX.out)).mono ?_); rintro e w2 ⟨v2, rfl, ho2, hb2⟩; obtain ⟨x2, y2, z2, rfl⟩ := ho2.form'; have HO2 := Lib.hid ho2; have HO12 := Lib.hid (HO1.out.below hb2); have HR2 := Lib.hid (HR1.out.below hb2); have HB2 := Lib.hid (Below.step HB1.out hb2); have g0 := HR2.out.c0; have g1 := HR2.out.c1; have g2 := HR2.out.free 0; have g3 := HR2.out.free 1; clear ho2 hb2)))
  all_goals
    have G2 : ∀ k, (Value.slice x1 y1 z1).ownBlock = some k → (some (w.heap.size + 1) : Option Nat) ≠ some k := fun k hk e => by have h5 : W2.heap.size ≤ k := (HO12.out.lt k hk).1; have := HR.out.lt; simp at e; omega
    have G3 : ∀ k, (Value.slice x2 y2 z2).ownBlock = some k → (some (w.heap.size + 1) : Option Nat) ≠ some k := fun k hk e => by have h5 := (HO2.out.lt k hk).1; have := HR1.out.lt; simp at e; omega
    have AP : ApartV (.slice x1 y1 z1) (.slice x2 y2 z2) := fun k hk hk' => by have h5 := (HO1.out.lt k hk).2; have h6 := (HO2.out.lt k hk').1; omega
    have hw2 : w.heap.size ≤ W2.heap.size := HB.out.size
    have hw1 : w.heap.size ≤ w1.heap.size := HB1.out.size
    have HF1 := Lib.hid ((HO12.out.grown (grown_trans grown_setCell grown_setCell) G2 (w' := (w2.setCell ⟨w.heap.size + 1, 0, none⟩ (.slice x1 y1 z1)).setCell ⟨w.heap.size + 1, 1, none⟩ (.slice x2 y2 z2))).mono (B' := w.heap.size) hw2)
    have HF2 := Lib.hid ((HO2.out.grown (grown_trans grown_setCell grown_setCell) G3 (w' := (w2.setCell ⟨w.heap.size + 1, 0, none⟩ (.slice x1 y1 z1)).setCell ⟨w.heap.size + 1, 1, none⟩ (.slice x2 y2 z2))).mono (B' := w.heap.size) hw1)
    have HF3 := Lib.hid ((HB2.out.setCell (p := ⟨w.heap.size + 1, 0, none⟩) (Nat.le_succ _) (.slice x1 y1 z1)).setCell (p := ⟨w.heap.size + 1, 1, none⟩) (Nat.le_succ _) (.slice x2 y2 z2))
    have HF4 := Lib.hid ((HR2.out.set0 (.slice x1 y1 z1)).set1 (.slice x2 y2 z2))
    have HF5 := Lib.hid AP
    clear G2 G3 AP hw2 hw1
    go_wp2
    exact bodyPost_ret (results_siInside _ _ (w.heap.size + 1) _ _ HF4.out rfl) rfl ⟨_, _, rfl, HF1.out, HF2.out, HF5.out, HF3.out⟩

theorem results_siOutside (tmps : Array Value) (w : World) (g : Nat) (v1 v2 : Value) (hg : Box2 26 w g v1 v2) (h2 : tmps.getD 6 undef = .pointer (some ⟨g, 0, none⟩)) :
    (results Try.f129 tmps).run Try.prog w = .ok (.agg #[v1, v2]) w :=
  results_cell_row (by kernel_rfl) tmps w g _ #[v1, v2] _ _ h2 hg Try.underlying26 rfl (by rw [mea_info]; rfl)
set_option maxHeartbeats 4000000 in
theorem siOutside_any (t b : List Int) (i j : Nat) (hg : goodP t b) (hij : i < j) (hj : j < t.length) (w : World) (u1 u2 : Value) (h1 : Rd w u1 t) (h2 : Rd w u2 b) :
    Calls Try.prog 129 #[.agg #[u1, u2], .int .i64 (i : Int), .int .i64 (j : Int)] w (MadeM w (outerL t i j) (outerL b i j)) := by
  have hrg : ∀ l : List Int, goodB l = true → ∀ k, k < l.length → 0 ≤ l.getD k 0 ∧ l.getD k 0 < 12 := fun l h k hk => by have := (good_facts h).2.2.1 k hk; have := good_len' h; omega
  have HT := Lib.hid (fun w u h => siOuter_any t i j hij hj (good_len' hg.1) (hrg t hg.1) w u h)
  have HBT := Lib.hid (fun w u h => siOuter_any b i j hij (by rw [← hg.2.2]; exact hj) (good_len' hg.2.1) (hrg b hg.2.1) w u h)
  generalize outerL t i j = T at *
  generalize outerL b i j = B at *
  have hz := Box2.below (Box2.new 26 w u1 u2) (Below.alloc1 _ (.cells #[.slice none 0 0, .slice none 0 0] 26))
  have hR := Box2.new 26 (w.alloc (.cells #[u1, u2] 26)) (.slice none 0 0) (.slice none 0 0)
  rw [World.size_alloc] at hR
  have B2 := Below.step (Below.alloc1 w (.cells #[u1, u2] 26)) (Below.alloc1 _ (.cells #[.slice none 0 0, .slice none 0 0] 26))
  have e0 := hz.c0; have e1 := hz.c1
  have f0 := hR.c0; have f1 := hR.c1; have f2 := hR.free 0; have f3 := hR.free 1
  have H1 := Lib.hid (h1.below B2); have H2 := Lib.hid (h2.below B2)
  have HZ := Lib.hid hz; have HR := Lib.hid hR; have HB := Lib.hid B2
  obtain ⟨a1, n1, c1, rfl⟩ : ∃ a n c, u1 = .slice a n c := by obtain ⟨a, c, e, _⟩ := h1; exact ⟨a, _, c, e⟩
  obtain ⟨a2, n2, c2, rfl⟩ : ∃ a n c, u2 = .slice a n c := by obtain ⟨a, c, e, _⟩ := h2; exact ⟨a, _, c, e⟩
  clear hz hR B2 h1 h2 hrg hg hij hj
  go_enter Try.func129, Try.ntmps129
  go_wp2_with fail
  generalize ((w.alloc (.cells #[.slice a1 n1 c1, .slice a2 n2 c2] 26)).alloc (.cells #[.slice none 0 0, .slice none 0 0] 26)) = W2 at *
  go_region_with (first
    | (go_at_call 193; ((with_reducible refine (HT.out _ _ (H1.out.below ((Below.refl _ W2).drew))).mono ?_); rintro e w1 ⟨v1, rfl, ho1, hb1⟩; obtain ⟨x1, y1, z1, rfl⟩ := ho1.form'; have HO1 := Lib.hid ho1; have hb1' : Below W2.heap.size W2 w1 := ((Below.refl _ W2).drew).trans hb1; have HR1 := Lib.hid (HR.out.below hb1'); have HB1 := Lib.hid (Below.step HB.out hb1'); have HX := Lib.hid hb1'; have d0 := (HZ.out.below hb1').c0; have d1 := (HZ.out.below hb1').c1; clear ho1 hb1 hb1'))
    | (go_at_call 193; ((with_reducible refine (HBT.out _ _ (H2.out.below HX.out)).mono ?_); rintro e w2 ⟨v2, rfl, ho2, hb2⟩; obtain ⟨x2, y2, z2, rfl⟩ := ho2.form'; have HO2 := Lib.hid ho2; have HO12 := Lib.hid (HO1.out.below hb2); have HR2 := Lib.hid (HR1.out.below hb2); have HB2 := Lib.hid (Below.step HB1.out hb2); have g0 := HR2.out.c0; have g1 := HR2.out.c1; have g2 := HR2.out.free 0; have g3 := HR2.out.free 1; clear ho2 hb2)))
  all_goals
    have G2 : ∀ k, (Value.slice x1 y1 z1).ownBlock = some k → (some (w.heap.size + 1) : Option Nat) ≠ some k := fun k hk e => by have h5 : W2.heap.size ≤ k := (HO12.out.lt k hk).1; have := HR.out.lt; simp at e; omega
    have G3 : ∀ k, (Value.slice x2 y2 z2).ownBlock = some k → (some (w.heap.size + 1) : Option Nat) ≠ some k := fun k hk e => by have h5 := (HO2.out.lt k hk).1; have := HR1.out.lt; simp at e; omega
    have AP : ApartV (.slice x1 y1 z1) (.slice x2 y2 z2) := fun k hk hk' => by have h5 := (HO1.out.lt k hk).2; have h6 := (HO2.out.lt k hk').1; omega
    have hw2 : w.heap.size ≤ W2.heap.size := HB.out.size
    have hw1 : w.heap.size ≤ w1.heap.size := HB1.out.size
    have HF1 := Lib.hid ((HO12.out.grown (grown_trans grown_setCell grown_setCell) G2 (w' := (w2.setCell ⟨w.heap.size + 1, 0, none⟩ (.slice x1 y1 z1)).setCell ⟨w.heap.size + 1, 1, none⟩ (.slice x2 y2 z2))).mono (B' := w.heap.size) hw2)
    have HF2 := Lib.hid ((HO2.out.grown (grown_trans grown_setCell grown_setCell) G3 (w' := (w2.setCell ⟨w.heap.size + 1, 0, none⟩ (.slice x1 y1 z1)).setCell ⟨w.heap.size + 1, 1, none⟩ (.slice x2 y2 z2))).mono (B' := w.heap.size) hw1)
    have HF3 := Lib.hid ((HB2.out.setCell (p := ⟨w.heap.size + 1, 0, none⟩) (Nat.le_succ _) (.slice x1 y1 z1)).setCell (p := ⟨w.heap.size + 1, 1, none⟩) (Nat.le_succ _) (.slice x2 y2 z2))
    have HF4 := Lib.hid ((HR2.out.set0 (.slice x1 y1 z1)).set1 (.slice x2 y2 z2))
    have HF5 := Lib.hid AP
    clear G2 G3 AP hw2 hw1
    go_wp2
    exact bodyPost_ret (results_siOutside _ _ (w.heap.size + 1) _ _ HF4.out rfl) rfl ⟨_, _, rfl, HF1.out, HF2.out, HF5.out, HF3.out⟩

end Go.Proofs.Ytogjclmmjdhfeab

namespace Go.Proofs.Ytogjclmmjdhfeab
open Go.RowKit
set_option linter.unusedSimpArgs false
set_option linter.unusedVariables false

/-- the rows met when i, i + 1 + k are next -/
def cutsUp (t b : List Int) (i k : Nat) : List (List Int) := ((strUp t.length i ++ strFrom t.length i k).filter fun p => closedL t b p.1 p.2).map rowOf
theorem cutsUp_zero (t b : List Int) : cutsUp t b 0 0 = [] := by simp [cutsUp, strUp, strFrom]
theorem cutsUp_full (t b : List Int) : cutsUp t b t.length 0 = (cutsL t b).map rowOf := by simp [cutsUp, strFrom, cutsL, strAll]
theorem cutsUp_row (t b : List Int) (i : Nat) : cutsUp t b i (t.length - i - 1) = cutsUp t b (i + 1) 0 := by simp [cutsUp, strFrom, strUp, strRow]
theorem cutsUp_next (t b : List Int) (i k : Nat) (hk : i + 1 + k < t.length) : cutsUp t b i (k + 1) = cutsUp t b i k ++ if decide (k + 2 < t.length) && closedL t b i (i + 1 + k) then [rowOf (i, i + 1 + k)] else [] := by
  unfold cutsUp
  rw [strFrom]
  by_cases h : k + 2 < t.length
  · rw [if_pos ⟨by omega, h⟩, ← List.append_assoc, List.filter_append, List.map_append]
    cases hc : closedL t b i (i + 1 + k) <;> simp [h, hc, List.filter_cons]
  · rw [if_neg (by omega)]
    simp [h]
theorem cutsUp_le (t b : List Int) (i k : Nat) (h12 : t.length ≤ 12) (hi : i ≤ t.length) (hk : k ≤ t.length) : (cutsUp t b i k).length ≤ 200 := by
  unfold cutsUp
  rw [List.length_map]
  refine Nat.le_trans (List.length_filter_le _ _) ?_
  rw [List.length_append]
  have h1 := strUp_len t.length i
  have h2 := strFrom_len t.length i k
  have h3 : i * t.length ≤ 12 * 12 := Nat.mul_le_mul (by omega) h12
  omega

theorem chain2 {w w1 w2 w3 : World} {A A' : Obj} {B : Nat} (h : Below B w w1) (h2 : Below w1.heap.size w1 w2) (hB : B ≤ w1.heap.size) (h3 : Below B ((w2.alloc A).alloc A') w3) : Below B w w3 :=
  (((h.trans (h2.mono hB)).alloc (Nat.le_trans hB h2.size) A).alloc (by have := h2.size; simp; omega) A').trans h3
theorem own_row2 (w : World) (x y : Int) (lo : Nat) (hlo : lo ≤ w.heap.size) : Own lo (w.alloc (.cells #[.int .i64 x, .int .i64 y] 3)) (.slice (some ⟨w.heap.size, 0, none⟩) 2 2) [x, y] :=
  World.ownsRow_lit w #[.int .i64 x, .int .i64 y] 2 hlo (by unfold maxLen; omega) rfl
set_option maxHeartbeats 4000000 in
set_option maxRecDepth 100000 in
theorem siAll_any (t b : List Int) (hl : t.length = b.length) (h12 : t.length ≤ 12) (w : World) (u1 u2 : Value) (h1 : Rd w u1 t) (h2 : Rd w u2 b) :
    Calls Try.prog 138 #[.agg #[u1, u2]] w (MadeLL w ((cutsL t b).map rowOf)) := by
  have hA := Box2.new 26 w u1 u2
  have B1 : Below w.heap.size w (w.alloc (.cells #[u1, u2] 26)) := Below.alloc1 w _
  have HC := Lib.hid (fun (i j : Nat) (hij : i < j) (hj : j < t.length) (w : World) h1 h2 => siClosed_any t b i j hij hj hl h12 w u1 u2 h1 h2)
  have H1 := Lib.hid (h1.below B1); have H2 := Lib.hid (h2.below B1)
  have HNX := Lib.hid (fun i k hk => cutsUp_next t b i k hk); have HRW := Lib.hid (fun i => cutsUp_row t b i); have HLE := Lib.hid (fun i k hi hk => cutsUp_le t b i k h12 hi hk); have HZ := Lib.hid (cutsUp_zero t b)
  rw [← cutsUp_full]
  obtain ⟨a1, c1, rfl, hc1, hm1, _⟩ := h1
  unfold maxLen at hm1
  clear h2 hl
  generalize hn : t.length = n at *
  have HN := Lib.hid hn; clear hn
  have HA := Lib.hid hA; have HB := Lib.hid B1
  have k0 := hA.c0; have k1 := hA.c1
  clear hA B1
  go_enter Try.func138, Try.ntmps138
  go_wp2
  generalize w.alloc (.cells #[.slice a1 n c1, u2] 26) = W1 at *
  go_loopw [4, 5] (fun o x wr => ∃ (i : Nat) (vs : List Value), i ≤ n ∧ x = .int .i64 (i : Int) ∧ OwnLL W1.heap.size wr.heap.size wr o vs (cutsUp t b i 0) ∧ Hid (Below W1.heap.size W1 wr)) (fun _ x _ => n - (intOf x).toNat)
  case atStart => exact ⟨0, [], by omega, rfl, by rw [HZ.out]; exact OwnLL.nil _ _ (Nat.le_refl _), Below.refl _ _⟩
  case round =>
    obtain ⟨i, vs, hi, rfl, hown, HBE⟩ := hrel
    clear HZ
    generalize wr = wa at *
    by_cases hlt : i < n
    · have HOW := Lib.hid hown; clear hown
      go_wp2
      go_loopw [4, 6] (fun o y wr => ∃ (k : Nat) (vs : List Value), i + 1 + k ≤ n ∧ y = .int .i64 ((i + 1 + k : Nat) : Int) ∧ OwnLL W1.heap.size wr.heap.size wr o vs (cutsUp t b i k) ∧ Hid (Below W1.heap.size W1 wr)) (fun _ y _ => n - (intOf y).toNat)
      case atStart => exact ⟨0, vs, by omega, by simp, HOW.out, HBE⟩
      case round =>
        obtain ⟨k, vs, hk, rfl, hown, HBF⟩ := hrel
        clear HOW
        generalize wr = wb at *
        by_cases hkl : i + 1 + k < n
        · have hnx := HNX.out i k hkl
          have hle := HLE.out i k (by omega) (by omega)
          have HCI := Lib.hid (HC.out i (i + 1 + k) (by omega) hkl wb (H1.out.below HBF.out) (H2.out.below HBF.out))
          generalize cutsUp t b i k = S at *
          have hro : rowOf (i, i + 1 + k) = [(i : Int), ((i + 1 + k : Nat) : Int)] := rfl
          rw [hro] at hnx
          obtain ⟨j, hj⟩ : ∃ j, i + 1 + k = j := ⟨_, rfl⟩
          have hk2 : k + 2 = j - i + 1 := by omega
          have hij : i < j := by omega
          rw [hj] at hkl hnx HCI ⊢
          rw [hk2] at hnx
          have hjk : j - i - 1 = k := by omega
          have HJ := Lib.hid hj
          clear hj hk2 hro
          have k0 := (HA.out.below HBF.out).c0; have k1 := (HA.out.below HBF.out).c1
          have HOW := Lib.hid hown; have HNX1 := Lib.hid hnx; have HL := Lib.hid hle
          have hsz := HBF.out.size
          clear hown hnx hle hjk
          by_cases hp : j - i + 1 < n
          · have hp2 : (j : Int) - (i : Int) + 1 < (n : Int) := by omega
            have hd : decide ((j : Int) - (i : Int) + 1 < (n : Int)) = true := decide_eq_true hp2
            have HP := Lib.hid (decide_eq_true hp)
            cases hcl : closedL t b i j with
            | true =>
              rw [hcl] at HCI
              have hsn : cutsUp t b i (k + 1) = S ++ [[(i : Int), (j : Int)]] := by rw [HNX1.out, HP.out, hcl]; rfl
              have HSN := Lib.hid hsn; clear hsn hcl
              go_wp2_with (first
                | (go_at_call 126; ((with_reducible refine HCI.out.mono ?_); rintro e w5 ⟨rfl, hb5⟩; have HO5 := Lib.hid (OwnLL.below HOW.out hb5); have HB5 := Lib.hid hb5; have hs5 := hb5.size; clear hb5))
                | (at_builtin; refine wp_appendLL _ rfl (.tmp 34) (.tmp 38) rfl W1.heap.size wb.heap.size w5.heap.size (w5.heap.size + 1) _ (.slice (some ⟨w5.heap.size, 0, none⟩) 2 2) _ S [(i : Int), (j : Int)] rfl rfl (by have := cell_lit1 (w5.alloc (.cells #[.int .i64 (i : Int), .int .i64 (j : Int)] 3)) (.slice (some ⟨w5.heap.size, 0, none⟩) 2 2) 24; rw [World.size_alloc] at this; exact this) (OwnLL.below HO5.out (Below.step (Below.alloc1 w5 (.cells #[.int .i64 (i : Int), .int .i64 (j : Int)] 3)) (Below.alloc1 _ _))) (Own.below (own_row2 w5 (i : Int) (j : Int) w5.heap.size (Nat.le_refl _)) (Below.alloc1 _ _)) hs5 (by omega) (by have := HL.out; omega) (by simp; omega) ?_; intro v' w7 hown7 hgr7 hbel7 _; have HO7 := Lib.hid hown7; have HB7 := Lib.hid (chain2 HBF.out HB5.out hsz hbel7); clear hown7 hgr7 hbel7))
              go_roundw
              case rel => exact ⟨k + 1, _, by have := HJ.out; omega, by have := HJ.out; go_num, by rw [HSN.out]; exact HO7.out, HB7.out⟩
              case measure => simp [intOf]; omega
            | false =>
              rw [hcl] at HCI
              have hsn : cutsUp t b i (k + 1) = S := by rw [HNX1.out, HP.out, hcl]; simp
              have HSN := Lib.hid hsn; clear hsn hcl
              go_wp2_with (go_at_call 126; ((with_reducible refine HCI.out.mono ?_); rintro e w5 ⟨rfl, hb5⟩; have HO5 := Lib.hid (OwnLL.mono (OwnLL.below HOW.out hb5) (Nat.le_refl _) hb5.size (Nat.le_refl _)); have HB5 := Lib.hid (Below.step HBF.out hb5); clear hb5))
              go_roundw
              case rel => exact ⟨k + 1, _, by have := HJ.out; omega, by have := HJ.out; go_num, by rw [HSN.out]; exact HO5.out, HB5.out⟩
              case measure => simp [intOf]; omega
          · have hp2 : ¬ ((j : Int) - (i : Int) + 1 < (n : Int)) := by omega
            have hd : decide ((j : Int) - (i : Int) + 1 < (n : Int)) = false := decide_eq_false hp2
            have hsn : cutsUp t b i (k + 1) = S := by rw [HNX1.out, decide_eq_false hp]; simp
            have HSN := Lib.hid hsn; clear hsn
            go_wp2
            go_roundw
            case rel => exact ⟨k + 1, _, by have := HJ.out; omega, by have := HJ.out; go_num, by rw [HSN.out]; exact HOW.out, HBF.out⟩
            case measure => simp [intOf]; omega
        · have hkk : k = n - i - 1 := by omega
          have hrw := HRW.out i
          rw [← hkk] at hrw
          rw [hrw] at hown
          have hjn : i + 1 + k = n := by omega
          rw [hjn]
          have HOW := Lib.hid hown
          clear hown hkk hrw hjn
          go_wp2
          go_roundw
          case rel => exact ⟨i + 1, _, by omega, by go_num, HOW.out, HBF.out⟩
          case measure => simp [intOf]; omega
    · obtain rfl : i = n := by omega
      obtain ⟨a5, c5, rfl, _⟩ := hown.form
      have HOW := Lib.hid hown; clear hown
      go_wp2
      go_ret
      exact ⟨_, _, rfl, OwnLL.mono HOW.out HB.out.size (Nat.le_refl _) (Nat.le_refl _), HB.out.trans (HBE.out.mono HB.out.size)⟩

end Go.Proofs.Ytogjclmmjdhfeab

namespace Go.Proofs.Ytogjclmmjdhfeab
open Go.RowKit
set_option linter.unusedSimpArgs false
set_option linter.unusedVariables false

theorem shortOf_next (last : Bool) (L : List Str) (k : Nat) (hk : k < L.length) : shortOf last (L.take (k + 1)) = pickS last (shortOf last (L.take k)) (L.getD k (0, 0)) := by
  unfold shortOf
  rw [List.take_succ_eq_append_getElem hk, List.foldl_append]
  simp [List.getD, hk]
theorem pick_lt (last : Bool) {x0 x1 y0 y1 : Nat} (h : x1 - x0 < y1 - y0) : pickS last (some (y0, y1)) (x0, x1) = some (x0, x1) := by
  have h' : slen (x0, x1) < slen (y0, y1) := h
  simp [pickS, h']
theorem pick_eq (last : Bool) {x0 x1 y0 y1 : Nat} (h : x1 - x0 = y1 - y0) : pickS last (some (y0, y1)) (x0, x1) = if last then some (x0, x1) else some (y0, y1) := by
  have h' : slen (x0, x1) = slen (y0, y1) := h
  simp [pickS, h']
theorem pick_gt (last : Bool) {x0 x1 y0 y1 : Nat} (h : ¬ x1 - x0 < y1 - y0) (h2 : x1 - x0 ≠ y1 - y0) : pickS last (some (y0, y1)) (x0, x1) = some (y0, y1) := by
  have h' : ¬ slen (x0, x1) < slen (y0, y1) := h
  have h2' : ¬ slen (x0, x1) = slen (y0, y1) := h2
  simp [pickS, h', h2']
theorem cuts_mem {t b : List Int} {p : Str} (h : p ∈ cutsL t b) : p.1 < p.2 ∧ p.2 < t.length := by
  have := (mem_strAll t.length p).1 (List.mem_filter.1 h).1
  unfold proper at this; omega
theorem short_take_mem (last : Bool) (L : List Str) : ∀ k, k ≤ L.length → ∀ q, shortOf last (L.take k) = some q → q ∈ L
  | 0, _, q, h => by simp [shortOf] at h
  | k + 1, hk, q, h => by
    rw [shortOf_next last L k (by omega)] at h
    have hm : L.getD k (0, 0) ∈ L := by simp [List.getD, show k < L.length by omega]
    cases hs : shortOf last (L.take k) with
    | none =>
      rw [hs] at h
      simp only [pickS, Option.some.injEq] at h
      rw [← h]; exact hm
    | some r =>
      rw [hs] at h
      simp only [pickS] at h
      split at h
      · simp only [Option.some.injEq] at h; rw [← h]; exact hm
      · simp only [Option.some.injEq] at h; rw [← h]; exact short_take_mem last L k (by omega) r hs
theorem own2 {B : Nat} {w : World} {v : Value} {x y : Int} (h : Own B w v [x, y]) : ∃ g c, v = .slice (some ⟨g, 0, none⟩) 2 c ∧ w.cell? ⟨g, 0, none⟩ = some (.int .i64 x) ∧ w.cell? ⟨g, 1, none⟩ = some (.int .i64 y) := by
  rcases h.shape with ⟨rfl, he⟩ | ⟨g, c, rfl, -⟩
  · cases he
  · obtain ⟨a, c', e, -, -, -, hr⟩ := h.rd
    rcases hr with hr | ⟨b, o, rfl, hc⟩
    · cases hr
    · simp only [Value.slice.injEq, Option.some.injEq, Addr.mk.injEq] at e
      obtain ⟨⟨rfl, rfl, -⟩, -, -⟩ := e
      have c0 := hc 0 (by simp)
      have c1 := hc 1 (by simp)
      exact ⟨g, c, rfl, by simpa using c0, by simpa using c1⟩
def ShV (t b : List Int) (last : Bool) (w : World) (v : Value) : Prop := (v = .slice none 0 0 ∧ shortL last t b = none) ∨ ∃ q g c, v = .slice (some ⟨g, 0, none⟩) 2 c ∧ shortL last t b = some q ∧ w.cell? ⟨g, 0, none⟩ = some (.int .i64 (q.1 : Int)) ∧ w.cell? ⟨g, 1, none⟩ = some (.int .i64 (q.2 : Int))

/-- the best of those met so far -/
def BestV (L : List Str) (last : Bool) (k : Nat) (w : World) (v : Value) : Prop := (v = .slice none 0 0 ∧ shortOf last (L.take k) = none) ∨ ∃ q g c, v = .slice (some ⟨g, 0, none⟩) 2 c ∧ shortOf last (L.take k) = some q ∧ w.cell? ⟨g, 0, none⟩ = some (.int .i64 (q.1 : Int)) ∧ w.cell? ⟨g, 1, none⟩ = some (.int .i64 (q.2 : Int))
set_option maxHeartbeats 4000000 in
set_option maxRecDepth 100000 in
theorem siShortest_any (last : Bool) (t b : List Int) (hl : t.length = b.length) (h12 : t.length ≤ 12) (w : World) (u1 u2 : Value) (h1 : Rd w u1 t) (h2 : Rd w u2 b) :
    Calls Try.prog 141 #[.agg #[u1, u2], .bool last] w (fun e w' => ∃ v, e = .returned v ∧ ShV t b last w' v ∧ Below w.heap.size w w') := by
  have hA := Box2.new 26 w u1 u2
  have B1 : Below w.heap.size w (w.alloc (.cells #[u1, u2] 26)) := Below.alloc1 w _
  have k0 := hA.c0; have k1 := hA.c1
  have HAL := Lib.hid (siAll_any t b hl h12 _ u1 u2 (h1.below B1) (h2.below B1))
  have HB := Lib.hid B1
  have HME := Lib.hid (fun p (hp : p ∈ cutsL t b) => show p.1 < p.2 ∧ p.2 < 12 from by have := cuts_mem hp; omega)
  have hlen : (cutsL t b).length ≤ 144 := cutsL_len h12
  unfold ShV shortL
  generalize cutsL t b = L at *
  have HTM := Lib.hid (fun k hk q hq => short_take_mem last L k hk q hq)
  have HNX := Lib.hid (fun k hk => shortOf_next last L k hk)
  have hfull : BestV L last L.length = fun w v => (v = .slice none 0 0 ∧ shortOf last L = none) ∨ ∃ q g c, v = .slice (some ⟨g, 0, none⟩) 2 c ∧ shortOf last L = some q ∧ w.cell? ⟨g, 0, none⟩ = some (.int .i64 (q.1 : Int)) ∧ w.cell? ⟨g, 1, none⟩ = some (.int .i64 (q.2 : Int)) := by
    funext w v
    simp only [BestV, List.take_length]
  have HFU := Lib.hid (fun w v (h : BestV L last L.length w v) => by rw [hfull] at h; exact h)
  have HML : Hid ((L.map rowOf).length = L.length) := List.length_map _
  have HMG : Hid (∀ k, k < L.length → (L.map rowOf).getD k [] = [((L.getD k (0, 0)).1 : Int), ((L.getD k (0, 0)).2 : Int)]) := fun k hk => by simp [List.getD, hk, rowOf]
  have HMM : Hid (∀ k, k < L.length → L.getD k (0, 0) ∈ L) := fun k hk => by simp [List.getD, hk]
  clear hA B1 h1 h2 hfull hl h12
  go_enter Try.func141, Try.ntmps141
  go_wp2_with fail
  refine HAL.out.mono ?_
  rintro e w1 ⟨v, vs, rfl, hown, hb1⟩
  have HB1 := Lib.hid (Below.step HB.out hb1)
  obtain ⟨a1, c1, rfl, hc1, hm1⟩ := hown.form
  rw [HML.out] at hc1
  unfold maxLen at hm1
  have HO := Lib.hid hown
  clear hown hb1 k0 k1
  rw [HML.out]
  go_wp2_with fail
  go_loopw [5, 11] (fun o x wr => ∃ k : Nat, k ≤ L.length ∧ x = .int .i64 (k : Int) ∧ Hid (BestV L last k w1 o) ∧ Hid (Below w1.heap.size w1 wr)) (fun _ x _ => L.length - (intOf x).toNat)
  case atStart => exact ⟨0, by omega, rfl, .inl ⟨rfl, by simp [shortOf]⟩, Below.refl _ _⟩
  case round =>
    obtain ⟨k, hk, rfl, HBV, HBE⟩ := hrel
    generalize wr = wa at *
    by_cases hlt : k < L.length
    · have ho := OwnLL.below HO.out HBE.out
      have hk' : k < (L.map rowOf).length := by rw [HML.out]; exact hlt
      rw [HML.out] at ho
      obtain ⟨g, rfl, -, -, hcell, -⟩ := ho.at (by omega)
      have hrow := hcell k hk'
      have hor := ho.own k hk'
      have hor1 := HO.out.own k hk'
      rw [HMG.out k hlt] at hor hor1
      have hnx := HNX.out k hlt
      have hme := HME.out _ (HMM.out k hlt)
      generalize L.getD k (0, 0) = p at *
      obtain ⟨x0, x1⟩ := p
      simp only at hor hor1 hme
      obtain ⟨gp, cp, hv, e0, e1⟩ := own2 hor
      obtain ⟨gp', cp', hv', f0, f1⟩ := own2 hor1
      rw [hv] at hv'
      simp only [Value.slice.injEq, Option.some.injEq, Addr.mk.injEq, and_true, true_and] at hv'
      obtain ⟨rfl, rfl⟩ := hv'
      rw [hv] at hrow
      have HF0 := Lib.hid f0; have HF1 := Lib.hid f1
      clear hv hor hor1 f0 f1 ho hcell hk'
      rcases HBV.out with ⟨rfl, hs⟩ | ⟨q, gq, cq, rfl, hs, g0, g1⟩
      · rw [hs] at hnx
        have HN : Hid (BestV L last (k + 1) w1 (.slice (some ⟨gp, 0, none⟩) 2 cp)) := .inr ⟨(x0, x1), gp, cp, rfl, hnx, HF0.out, HF1.out⟩
        clear hs hnx
        go_wp2_with fail
        go_quiet (fail)
        go_wp2_with fail
        go_roundw
        case rel => exact ⟨k + 1, by omega, by go_num, HN.out, Below.drewN HBE.out _⟩
        case measure => simp [intOf]; omega
      · rw [hs] at hnx
        have hmq := HME.out q (HTM.out k hk q hs)
        obtain ⟨y0, y1⟩ := q
        simp only at g0 g1 hmq
        have c0 := (HBE.out.cell (p := ⟨gq, 0, none⟩) (World.block_lt_of_cell? w1 _ g0)).trans g0
        have c1' := (HBE.out.cell (p := ⟨gq, 1, none⟩) (World.block_lt_of_cell? w1 _ g1)).trans g1
        have HG0 := Lib.hid g0; have HG1 := Lib.hid g1
        clear g0 g1
        by_cases hd : x1 - x0 < y1 - y0
        · rw [pick_lt last hd] at hnx
          have HN : Hid (BestV L last (k + 1) w1 (.slice (some ⟨gp, 0, none⟩) 2 cp)) := .inr ⟨(x0, x1), gp, cp, rfl, hnx, HF0.out, HF1.out⟩
          have hi : (x1 : Int) - (x0 : Int) < (y1 : Int) - (y0 : Int) := by omega
          have hdi : decide ((x1 : Int) - (x0 : Int) < (y1 : Int) - (y0 : Int)) = true := decide_eq_true hi
          clear hs hnx
          go_wp2_with fail
          go_quiet (fail)
          go_wp2_with fail
          go_roundw
          case rel => exact ⟨k + 1, by omega, by go_num, HN.out, Below.drewN HBE.out _⟩
          case measure => simp [intOf]; omega
        · have hi : ¬ ((x1 : Int) - (x0 : Int) < (y1 : Int) - (y0 : Int)) := by omega
          have hdi : decide ((x1 : Int) - (x0 : Int) < (y1 : Int) - (y0 : Int)) = false := decide_eq_false hi
          by_cases he : x1 - x0 = y1 - y0
          · have hei : ((x1 : Int) - (x0 : Int) == (y1 : Int) - (y0 : Int)) = true := by simp; omega
            rw [pick_eq last he] at hnx
            cases last with
            | true =>
              rw [if_pos rfl] at hnx
              have HN : Hid (BestV L true (k + 1) w1 (.slice (some ⟨gp, 0, none⟩) 2 cp)) := .inr ⟨(x0, x1), gp, cp, rfl, hnx, HF0.out, HF1.out⟩
              clear hs hnx
              go_wp2_with fail
              go_quiet (fail)
              go_wp2_with fail
              go_roundw
              case rel => exact ⟨k + 1, by omega, by go_num, HN.out, Below.drewN HBE.out _⟩
              case measure => simp [intOf]; omega
            | false =>
              simp only [Bool.false_eq_true, if_false] at hnx
              have HN : Hid (BestV L false (k + 1) w1 (.slice (some ⟨gq, 0, none⟩) 2 cq)) := .inr ⟨(y0, y1), gq, cq, rfl, hnx, HG0.out, HG1.out⟩
              clear hs hnx hei
              go_wp2_with fail
              go_quiet (fail)
              go_wp2_with fail
              go_roundw
              case rel => exact ⟨k + 1, by omega, by go_num, HN.out, Below.drewN HBE.out _⟩
              case measure => simp [intOf]; omega
          · have hei : ((x1 : Int) - (x0 : Int) == (y1 : Int) - (y0 : Int)) = false := by simp; omega
            rw [pick_gt last hd he] at hnx
            have HN : Hid (BestV L last (k + 1) w1 (.slice (some ⟨gq, 0, none⟩) 2 cq)) := .inr ⟨(y0, y1), gq, cq, rfl, hnx, HG0.out, HG1.out⟩
            clear hs hnx
            cases last with
            | true =>
              go_wp2_with fail
              go_quiet (fail)
              go_wp2_with fail
              go_roundw
              case rel => exact ⟨k + 1, by omega, by go_num, HN.out, Below.drewN HBE.out _⟩
              case measure => simp [intOf]; omega
            | false =>
              clear hei
              go_wp2_with fail
              go_quiet (fail)
              go_wp2_with fail
              go_roundw
              case rel => exact ⟨k + 1, by omega, by go_num, HN.out, Below.drewN HBE.out _⟩
              case measure => simp [intOf]; omega
    · obtain rfl : k = L.length := by omega
      have hb := HFU.out _ _ HBV.out
      have hcl : ∀ (g i : Nat) (x : Value), w1.cell? ⟨g, i, none⟩ = some x → wa.cell? ⟨g, i, none⟩ = some x := fun g i x h => (HBE.out.cell (p := ⟨g, i, none⟩) (World.block_lt_of_cell? w1 _ h)).trans h
      rcases hb with ⟨rfl, hs⟩ | ⟨q, gq, cq, rfl, hs, g0, g1⟩
      · have HS := Lib.hid hs; clear hs hcl
        go_wp2_with fail
        go_ret
        exact ⟨_, rfl, .inl ⟨rfl, HS.out⟩, Below.step HB1.out HBE.out⟩
      · have HS := Lib.hid hs; have HG0 := Lib.hid (hcl _ _ _ g0); have HG1 := Lib.hid (hcl _ _ _ g1); clear hs hcl g0 g1
        go_wp2_with fail
        go_ret
        exact ⟨_, rfl, .inr ⟨q, gq, cq, rfl, HS.out, HG0.out, HG1.out⟩, Below.step HB1.out HBE.out⟩

end Go.Proofs.Ytogjclmmjdhfeab
