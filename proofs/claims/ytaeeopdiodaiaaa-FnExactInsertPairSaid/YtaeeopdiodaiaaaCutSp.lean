/- The model's siClosed, siStretch, siInner, siOuter, siInside, siOutside. -/
import Derived.Test.YtaeeopdiodaiaaaCutRes
import Derived.Test.YtaeeopdiodaiaaaNum
import Derived.Test.YtaeeopdiodaiaaaSpan
import Derived.Test.YtaeeopdiodaiaaaSlice
import Derived.RegionTactic
import Derived.Deep.RegionWith
namespace Go.Proofs.Ytaeeopdiodaiaaa
open Go.RowKit
set_option linter.unusedSimpArgs false
set_option linter.unusedVariables false

set_option maxHeartbeats 2000000 in
theorem siStretch_any (t b : List Int) (i j : Int) (w : World) (u1 u2 : Value) (h1 : Rd w u1 t) (h2 : Rd w u2 b) (m1 : t.length ≤ 1048576) (m2 : b.length ≤ 1048576) :
    Calls Try.prog 36 #[.agg #[u1, u2], .int .i64 i, .int .i64 j] w (Tells w (ok_IsClosed t b i j)) := by
  unfold ok_IsClosed
  have hA := Box2.new 28 w u1 u2
  have B1 : Below w.heap.size w (w.alloc (.cells #[u1, u2] 28)) := Below.alloc1 w _
  have k0 := hA.c0; have k1 := hA.c1
  have hrd := mePair_any t b _ u1 u2 (h1.below B1) (h2.below B1) m1 m2
  have HB := Lib.hid B1; have HA := Lib.hid hA
  have hln : ∃ a c, u1 = .slice a t.length c ∧ t.length ≤ c := by obtain ⟨a, c, rfl, h3, _⟩ := h1; exact ⟨a, c, rfl, h3⟩
  obtain ⟨a1, c1, rfl, hc1⟩ := hln
  have hR : ∀ R : Bool, inS t.length i j = R → (inB j 0 ((t.length : Int) - 1) && inB i 0 ((t.length : Int) - 1) && decide (i < j)) = R := by
    intro R h
    rw [← h]
    unfold inS inB
    rw [Bool.eq_iff_iff]
    simp only [Bool.and_eq_true, decide_eq_true_eq]
    omega
  obtain ⟨R, hRe⟩ : ∃ R, inS t.length i j = R := ⟨_, rfl⟩
  have hS := hR R hRe
  rw [hRe]
  generalize t.length = n at *
  clear hA B1 h1 h2 hR hRe
  cases e1 : pairOk t b with
  | false =>
    rw [e1] at hrd
    have HR := Lib.hid hrd; clear hrd e1 hS
    go_enter Try.func36, Try.ntmps36
    go_wp2_with fail
    refine HR.out.mono ?_
    rintro e w1 ⟨rfl, hb1⟩
    go_wp2
    go_ret
    exact ⟨rfl, Below.step HB.out hb1⟩
  | true =>
    rw [e1] at hrd
    have HR := Lib.hid hrd; clear hrd e1
    cases hX : inB j 0 ((n : Int) - 1) with
    | false =>
      rw [hX] at hS
      obtain rfl : R = false := by rw [← hS]; rfl
      have HX := Lib.hid hX; clear hX hS
      go_enter Try.func36, Try.ntmps36
      go_wp2_with fail
      refine HR.out.mono ?_
      rintro e w1 ⟨rfl, hb1⟩
      have m0 := (HA.out.below hb1).c0; have m1 := (HA.out.below hb1).c1
      go_wp2_with (go_at_call 57; refine (l1In_any _ _ _ _).mono ?_; rintro e w' ⟨rfl, rfl⟩; first | rw [HX.out] | skip)
      go_ret
      exact ⟨rfl, Below.step HB.out hb1⟩
    | true =>
      cases hY : inB i 0 ((n : Int) - 1) with
      | false =>
        rw [hX, hY] at hS
        obtain rfl : R = false := by rw [← hS]; rfl
        have HX := Lib.hid hX; have HY := Lib.hid hY; clear hX hY hS
        go_enter Try.func36, Try.ntmps36
        go_wp2_with fail
        refine HR.out.mono ?_
        rintro e w1 ⟨rfl, hb1⟩
        have m0 := (HA.out.below hb1).c0; have m1 := (HA.out.below hb1).c1
        go_wp2_with (go_at_call 57; refine (l1In_any _ _ _ _).mono ?_; rintro e w' ⟨rfl, rfl⟩; first | rw [HX.out] | rw [HY.out])
        go_ret
        exact ⟨rfl, Below.step HB.out hb1⟩
      | true =>
        rw [hX, hY] at hS
        have hD : decide (i < j) = R := by rw [← hS]; rfl
        have HX := Lib.hid hX; have HY := Lib.hid hY; clear hX hY hS
        go_enter Try.func36, Try.ntmps36
        go_wp2_with fail
        refine HR.out.mono ?_
        rintro e w1 ⟨rfl, hb1⟩
        have m0 := (HA.out.below hb1).c0; have m1 := (HA.out.below hb1).c1
        go_wp2_with (go_at_call 57; refine (l1In_any _ _ _ _).mono ?_; rintro e w' ⟨rfl, rfl⟩; first | rw [HX.out] | rw [HY.out])
        go_ret
        refine ⟨?_, Below.step HB.out hb1⟩
        rw [← hD]; rfl

theorem closed_stepS {t b : List Int} {i j k : Nat} {R : Bool} (hk : k ≤ j) (h : allFrom (clP t b i j) k (j + 1 - k) = R) : (clP t b i j k = true → allFrom (clP t b i j) (k + 1) (j + 1 - (k + 1)) = R) ∧ (clP t b i j k = false → R = false) := by
  rw [show j + 1 - k = (j + 1 - (k + 1)) + 1 by omega, allFrom] at h
  exact ⟨fun e => by rw [e] at h; simpa using h, fun e => by rw [e] at h; simpa using h.symm⟩
set_option maxHeartbeats 2000000 in
theorem siClosed_any (t b : List Int) (i j : Nat) (hij : i < j) (hj : j < t.length) (hl : t.length = b.length) (h12 : t.length ≤ 12) (w : World) (u1 u2 : Value) (h1 : Rd w u1 t) (h2 : Rd w u2 b) :
    Calls Try.prog 37 #[.agg #[u1, u2], .int .i64 (i : Int), .int .i64 (j : Int)] w (Tells w (closedL t b i j)) := by
  obtain ⟨R, hR⟩ : ∃ R, closedL t b i j = R := ⟨_, rfl⟩
  rw [hR]
  unfold closedL at hR
  have hA := Box2.new 28 w u1 u2
  have B1 : Below w.heap.size w (w.alloc (.cells #[u1, u2] 28)) := Below.alloc1 w _
  have H1 := h1.below B1; have H2 := h2.below B1
  obtain ⟨a1, c1, rfl, hc1, hm1, _, hd1⟩ := H1
  obtain ⟨a2, c2, rfl, hc2, hm2, _, hd2⟩ := H2
  rcases hd1 with h0 | ⟨g1, o1, rfl, hcell1⟩
  · exfalso; rw [h0] at hj; simp at hj
  rcases hd2 with h0 | ⟨g2, o2, rfl, hcell2⟩
  · exfalso; rw [hl, h0] at hj; simp at hj
  clear h1 h2
  generalize hbn : b.length = nb at *
  subst hl
  generalize hn : t.length = n at *
  unfold maxLen at hm1 hm2
  have k0 := hA.c0; have k1 := hA.c1
  have HR := Lib.hid hR; have HC1 := Lib.hid hcell1; have HC2 := Lib.hid hcell2; have HN := Lib.hid hn; have HB := Lib.hid B1; have HBN := Lib.hid hbn
  clear hR hcell1 hcell2 hn hA B1 hbn
  go_enter Try.func37, Try.ntmps37
  go_wp2
  generalize w.alloc (.cells #[.slice (some ⟨g1, o1, none⟩) n c1, .slice (some ⟨g2, o2, none⟩) n c2] 28) = W1 at *
  go_loop [7] (fun x => ∃ k : Nat, i ≤ k ∧ k ≤ j + 1 ∧ x = .int .i64 (k : Int) ∧ Hid (allFrom (clP t b i j) k (j + 1 - k) = R)) (fun x => j + 1 - (intOf x).toNat)
  case atStart => exact ⟨i, by omega, by omega, rfl, HR.out⟩
  case round =>
    obtain ⟨k, hik, hk, rfl, HK⟩ := hrel
    clear HR
    by_cases hlt : k ≤ j
    · have hst := closed_stepS hlt HK.out
      have hcl : clP t b i j k = (inB (t.getD k 0) i j && inB (b.getD k 0) i j) := rfl
      have p1 := HC1.out k (by omega)
      have p2 := HC2.out k (by omega)
      generalize t.getD k 0 = x at *
      generalize b.getD k 0 = y at *
      generalize clP t b i j k = c at *
      have hkn : k < n := by omega
      have HST := Lib.hid hst; have HCL := Lib.hid hcl
      clear HK hst hcl
      cases hX : inB x i j with
      | false =>
        rw [hX] at HCL
        have HX := Lib.hid hX; clear hX
        go_wp2_with (go_at_call 57; refine (l1In_any _ _ _ _).mono ?_; rintro e w' ⟨rfl, rfl⟩; rw [HX.out])
        go_ret
        exact ⟨by rw [HST.out.2 HCL.out]; first | done | rfl, HB.out⟩
      | true =>
        have HX := Lib.hid hX
        cases hY : inB y i j with
        | false =>
          rw [hX, hY] at HCL
          have HY := Lib.hid hY; clear hX hY
          go_wp2_with (go_at_call 57; refine (l1In_any _ _ _ _).mono ?_; rintro e w' ⟨rfl, rfl⟩; first | rw [HX.out] | rw [HY.out])
          go_ret
          exact ⟨by rw [HST.out.2 HCL.out]; first | done | rfl, HB.out⟩
        | true =>
          rw [hX, hY] at HCL
          have HY := Lib.hid hY; clear hX hY
          go_wp2_with (go_at_call 57; refine (l1In_any _ _ _ _).mono ?_; rintro e w' ⟨rfl, rfl⟩; first | rw [HX.out] | rw [HY.out])
          go_round
          case rel => exact ⟨k + 1, by omega, by omega, by go_num, HST.out.1 HCL.out⟩
          case measure => simp [intOf]; omega
    · obtain rfl : k = j + 1 := by omega
      have hK := HK.out
      rw [Nat.sub_self] at hK
      have HT : Hid (R = true) := hK.symm
      clear HK hK
      go_wp2
      go_ret
      exact ⟨by rw [HT.out]; first | done | rfl, HB.out⟩

theorem innerL_getD {l : List Int} {i j : Nat} (hij : i < j) (hj : j < l.length) {k : Nat} (hk : k < j + 1 - i) : (innerL l i j).getD k 0 = l.getD (i + k) 0 - (i : Int) := by
  have h1 : i + k < l.length := by omega
  simp [innerL, List.getD, hk, h1]
theorem take_nextI (L : List Int) (k : Nat) (h : k < L.length) : L.take (k + 1) = L.take k ++ [L.getD k 0] := by
  rw [List.take_succ_eq_append_getElem h]; simp [List.getD, h]
set_option maxHeartbeats 2000000 in
theorem siInner_any (l : List Int) (i j : Nat) (hij : i < j) (hj : j < l.length) (h12 : l.length ≤ 12) (hr : ∀ k, k < l.length → 0 ≤ l.getD k 0 ∧ l.getD k 0 < 12) (w : World) (u : Value) (h : Rd w u l) :
    Calls Try.prog 71 #[u, .int .i64 (i : Int), .int .i64 (j : Int)] w (Made w (innerL l i j)) := by
  obtain ⟨a1, c1, rfl, hc1, hm1, _, hd1⟩ := h
  rcases hd1 with h0 | ⟨g1, o1, rfl, hcell1⟩
  · exfalso; rw [h0] at hj; simp at hj
  unfold maxLen at hm1
  have hlen := innerL_length hij hj
  have HG := Lib.hid (fun k (hk : k < j + 1 - i) => innerL_getD (l := l) hij hj hk)
  generalize innerL l i j = A at *
  have HTK := Lib.hid (fun k h => take_nextI A k h)
  obtain ⟨m, hm⟩ : ∃ m, m = j + 1 - i := ⟨_, rfl⟩
  have hfull : A.take m = A := List.take_of_length_le (by omega)
  rw [← hfull]
  have HC := Lib.hid hcell1; have HR := Lib.hid hr
  have HAL : Hid (A.length = m) := by show _ = _; omega
  have hjm : i + m = j + 1 := by omega
  clear hfull hlen hcell1 hr
  obtain ⟨n, hn⟩ : ∃ n, n = l.length := ⟨_, rfl⟩
  rw [← hn] at *
  have HN := Lib.hid hn; clear hn
  rw [← hm] at HG
  clear hm
  have b1 : (0 : Int) ≤ (i : Int) := by omega
  have b2 : (i : Int) ≤ (j : Int) + 1 := by omega
  have b3 : (j : Int) + 1 ≤ (c1 : Int) := by omega
  go_enter Try.func71, Try.ntmps71
  go_wp2
  have HJ : Hid (m = j + 1 - i) := by show _ = _; omega
  rw [← HJ.out]
  clear b1 b2 b3
  go_loopw [7, 16] (fun o x wr => ∃ k : Nat, k ≤ m ∧ x = .int .i64 (k : Int) ∧ Own w.heap.size wr o (A.take k) ∧ Below w.heap.size w wr) (fun _ x _ => m - (intOf x).toNat)
  case atStart => exact ⟨0, by omega, rfl, by simpa using Own.nil _ _, Below.refl _ _⟩
  case round =>
    obtain ⟨k, hk, rfl, hown, hbel⟩ := hrel
    have hsz := hbel.size
    by_cases hlt : k < m
    · have hsrc : wr.cell? ⟨g1, o1 + i + k, none⟩ = some (.int .i64 (l.getD (i + k) 0)) := by
        have := HC.out (i + k) (by omega)
        rw [Nat.add_assoc]
        exact (hbel.cell (p := ⟨g1, o1 + (i + k), none⟩) (World.block_lt_of_cell? w _ this)).trans this
      have hx := HR.out (i + k) (by omega)
      have hnx := HTK.out k (by rw [HAL.out]; exact hlt)
      have hg := HG.out k hlt
      rw [hg] at hnx
      have hlen : (A.take k).length = k := by rw [List.length_take, HAL.out]; omega
      generalize l.getD (i + k) 0 = x at *
      have HNX := Lib.hid hnx; have HL := Lib.hid hlen
      clear hnx hg hlen
      generalize A.take k = S at *
      go_wp2_with (at_builtin; refine wp_append _ rfl _ _ rfl w.heap.size _ _ S [x - (i : Int)] rfl rfl (Own.below hown (Below.alloc1 _ _)) (Own.rd (Own.lit1 _ _ _ (Nat.le_refl _))) (by rw [HL.out]; simp; omega) (by simp; omega) ?_; intro v' w2 hown2 hgr hbel2; rw [← HNX.out] at hown2; have hbel3 := (hbel.alloc hsz _).trans hbel2; clear hgr hbel2)
      go_roundw
      case rel => exact ⟨k + 1, by omega, by go_num, hown2, hbel3⟩
      case measure => simp [intOf]; omega
    · obtain rfl : k = m := by omega
      go_wp2
      go_ret
      exact ⟨_, rfl, hown, hbel⟩

set_option maxHeartbeats 2000000 in
theorem siOuter_any (l : List Int) (i j : Nat) (hij : i < j) (hj : j < l.length) (h12 : l.length ≤ 12) (hr : ∀ k, k < l.length → 0 ≤ l.getD k 0 ∧ l.getD k 0 < 12) (w : World) (u : Value) (h : Rd w u l) :
    Calls Try.prog 75 #[u, .int .i64 (i : Int), .int .i64 (j : Int)] w (Made w (outerL l i j)) := by
  obtain ⟨a1, c1, rfl, hc1, hm1, _, hd1⟩ := h
  rcases hd1 with h0 | ⟨g1, o1, rfl, hcell1⟩
  · exfalso; rw [h0] at hj; simp at hj
  unfold maxLen at hm1
  unfold outerL
  have HC := Lib.hid hcell1; have HR := Lib.hid hr
  have HLE := Lib.hid (fun k => outerK_le l i j k)
  have HNXT : Hid (∀ k, outerK l i j (k + 1) = outerK l i j k ++ if inB (k : Int) i j then [] else [outS i j (l.getD k 0)]) := fun k => rfl
  clear hcell1 hr
  generalize hn : l.length = n at *
  have HN := Lib.hid hn; clear hn
  go_enter Try.func75, Try.ntmps75
  go_wp2
  go_loopw [7, 12] (fun o x wr => ∃ k : Nat, k ≤ n ∧ x = .int .i64 (k : Int) ∧ Own w.heap.size wr o (outerK l i j k) ∧ Below w.heap.size w wr) (fun _ x _ => n - (intOf x).toNat)
  case atStart => exact ⟨0, by omega, rfl, Own.nil _ _, Below.refl _ _⟩
  case round =>
    obtain ⟨k, hk, rfl, hown, hbel⟩ := hrel
    have hsz := hbel.size
    by_cases hlt : k < n
    · have hsrc : wr.cell? ⟨g1, o1 + k, none⟩ = some (.int .i64 (l.getD k 0)) := by
        have := HC.out k hlt
        exact (hbel.cell (p := ⟨g1, o1 + k, none⟩) (World.block_lt_of_cell? w _ this)).trans this
      have hx := HR.out k hlt
      have hnx := HNXT.out k
      have hle := HLE.out k
      generalize l.getD k 0 = x at *
      cases hI : inB (k : Int) i j with
      | true =>
        rw [hI, if_pos rfl, List.append_nil] at hnx
        have HI := Lib.hid hI; have HNX := Lib.hid hnx; clear hnx hI
        go_wp2_with (go_at_call 57; refine (l1In_any _ _ _ _).mono ?_; rintro e w' ⟨rfl, rfl⟩; rw [HI.out])
        rw [← HNX.out] at hown
        go_roundw
        case rel => exact ⟨k + 1, by omega, by go_num, hown, hbel⟩
        case measure => simp [intOf]; omega
      | false =>
        rw [hI] at hnx
        simp only [Bool.false_eq_true, if_false] at hnx
        have HI := Lib.hid hI; clear hI
        generalize outerK l i j k = S at *
        have HL := Lib.hid hle; clear hle
        by_cases hxj : (j : Int) < x
        · have ho : outS i j x = x - ((j : Int) - i + 1) := by unfold outS; rw [if_pos hxj]
          rw [ho] at hnx
          have HNX := Lib.hid hnx; clear hnx ho
          go_wp2_with (first
            | (go_at_call 57; refine (l1In_any _ _ _ _).mono ?_; rintro e w' ⟨rfl, rfl⟩; rw [HI.out])
            | (at_builtin; refine wp_append _ rfl _ _ rfl w.heap.size _ _ S [x - ((j : Int) - i + 1)] rfl rfl (Own.below hown (Below.alloc1 _ _)) (Own.rd (Own.lit1 _ _ _ (Nat.le_refl _))) (by have := HL.out; simp; omega) (by simp; omega) ?_; intro v' w2 hown2 hgr hbel2; rw [← HNX.out] at hown2; have hbel3 := (hbel.alloc hsz _).trans hbel2; clear hgr hbel2))
          go_roundw
          case rel => exact ⟨k + 1, by omega, by go_num, hown2, hbel3⟩
          case measure => simp [intOf]; omega
        · have ho : outS i j x = x := by unfold outS; rw [if_neg hxj]
          rw [ho] at hnx
          have HNX := Lib.hid hnx; clear hnx ho
          go_wp2_with (first
            | (go_at_call 57; refine (l1In_any _ _ _ _).mono ?_; rintro e w' ⟨rfl, rfl⟩; rw [HI.out])
            | (at_builtin; refine wp_append _ rfl _ _ rfl w.heap.size _ _ S [x] rfl rfl (Own.below hown (Below.alloc1 _ _)) (Own.rd (Own.lit1 _ _ _ (Nat.le_refl _))) (by have := HL.out; simp; omega) (by simp; omega) ?_; intro v' w2 hown2 hgr hbel2; rw [← HNX.out] at hown2; have hbel3 := (hbel.alloc hsz _).trans hbel2; clear hgr hbel2))
          go_roundw
          case rel => exact ⟨k + 1, by omega, by go_num, hown2, hbel3⟩
          case measure => simp [intOf]; omega
    · obtain rfl : k = n := by omega
      go_wp2
      go_ret
      exact ⟨_, rfl, hown, hbel⟩

theorem results_siInside (tmps : Array Value) (w : World) (g : Nat) (v1 v2 : Value) (hg : Box2 28 w g v1 v2) (h2 : tmps.getD 6 undef = .pointer (some ⟨g, 0, none⟩)) :
    (results Try.f51 tmps).run Try.prog w = .ok (.agg #[v1, v2]) w :=
  results_cell_row (by kernel_rfl) tmps w g _ #[v1, v2] _ _ h2 hg Try.underlying28 rfl (by rw [mea_info]; rfl)
set_option maxHeartbeats 4000000 in
theorem siInside_any (t b : List Int) (i j : Nat) (hg : goodP t b) (hij : i < j) (hj : j < t.length) (w : World) (u1 u2 : Value) (h1 : Rd w u1 t) (h2 : Rd w u2 b) :
    Calls Try.prog 51 #[.agg #[u1, u2], .int .i64 (i : Int), .int .i64 (j : Int)] w (MadeM w (innerL t i j) (innerL b i j)) := by
  have hrg : ∀ l : List Int, goodB l = true → ∀ k, k < l.length → 0 ≤ l.getD k 0 ∧ l.getD k 0 < 12 := fun l h k hk => by have := (good_facts h).2.2.1 k hk; have := good_len' h; omega
  have HT := Lib.hid (fun w u h => siInner_any t i j hij hj (good_len' hg.1) (hrg t hg.1) w u h)
  have HBT := Lib.hid (fun w u h => siInner_any b i j hij (by rw [← hg.2.2]; exact hj) (good_len' hg.2.1) (hrg b hg.2.1) w u h)
  generalize innerL t i j = T at *
  generalize innerL b i j = B at *
  have hz := Box2.below (Box2.new 28 w u1 u2) (Below.alloc1 _ (.cells #[.slice none 0 0, .slice none 0 0] 28))
  have hR := Box2.new 28 (w.alloc (.cells #[u1, u2] 28)) (.slice none 0 0) (.slice none 0 0)
  rw [World.size_alloc] at hR
  have B2 := Below.step (Below.alloc1 w (.cells #[u1, u2] 28)) (Below.alloc1 _ (.cells #[.slice none 0 0, .slice none 0 0] 28))
  have e0 := hz.c0; have e1 := hz.c1
  have f0 := hR.c0; have f1 := hR.c1; have f2 := hR.free 0; have f3 := hR.free 1
  have H1 := Lib.hid (h1.below B2); have H2 := Lib.hid (h2.below B2)
  have HZ := Lib.hid hz; have HR := Lib.hid hR; have HB := Lib.hid B2
  obtain ⟨a1, n1, c1, rfl⟩ : ∃ a n c, u1 = .slice a n c := by obtain ⟨a, c, e, _⟩ := h1; exact ⟨a, _, c, e⟩
  obtain ⟨a2, n2, c2, rfl⟩ : ∃ a n c, u2 = .slice a n c := by obtain ⟨a, c, e, _⟩ := h2; exact ⟨a, _, c, e⟩
  clear hz hR B2 h1 h2 hrg hg hij hj
  go_enter Try.func51, Try.ntmps51
  go_wp2_with fail
  generalize ((w.alloc (.cells #[.slice a1 n1 c1, .slice a2 n2 c2] 28)).alloc (.cells #[.slice none 0 0, .slice none 0 0] 28)) = W2 at *
  go_region_with (first
    | (go_at_call 71; ((with_reducible refine (HT.out _ _ (H1.out.below ((Below.refl _ W2).drew))).mono ?_); rintro e w1 ⟨v1, rfl, ho1, hb1⟩; obtain ⟨x1, y1, z1, rfl⟩ := ho1.form'; have HO1 := Lib.hid ho1; have hb1' : Below W2.heap.size W2 w1 := ((Below.refl _ W2).drew).trans hb1; have HR1 := Lib.hid (HR.out.below hb1'); have HB1 := Lib.hid (Below.step HB.out hb1'); have HX := Lib.hid hb1'; have d0 := (HZ.out.below hb1').c0; have d1 := (HZ.out.below hb1').c1; clear ho1 hb1 hb1'))
    | (go_at_call 71; ((with_reducible refine (HBT.out _ _ (H2.out.below HX.out)).mono ?_); rintro e w2 ⟨v2, rfl, ho2, hb2⟩; obtain ⟨x2, y2, z2, rfl⟩ := ho2.form'; have HO2 := Lib.hid ho2; have HO12 := Lib.hid (HO1.out.below hb2); have HR2 := Lib.hid (HR1.out.below hb2); have HB2 := Lib.hid (Below.step HB1.out hb2); have g0 := HR2.out.c0; have g1 := HR2.out.c1; have g2 := HR2.out.free 0; have g3 := HR2.out.free 1; clear ho2 hb2)))
  all_goals
    have G2 : ∀ k, (Value.slice x1 y1 z1).ownBlock = some k → (some (w.heap.size + 1) : Option Nat) ≠ some k := fun k hk e => by have h5 : W2.heap.size ≤ k := (HO12.out.lt k hk).1; have := HR.out.lt; simp at e; omega
    have G3 : ∀ k, (Value.slice x2 y2 z2).ownBlock = some k → (some (w.heap.size + 1) : Option Nat) ≠ some k := fun k hk e => by have h5 := (HO2.out.lt k hk).1; have := HR1.out.lt; simp at e; omega
    have AP : ApartV (.slice x1 y1 z1) (.slice x2 y2 z2) := fun k hk hk' => by have h5 := (HO1.out.lt k hk).2; have h6 := (HO2.out.lt k hk').1; omega
    have hw2 : w.heap.size ≤ W2.heap.size := HB.out.size
    have hw1 : w.heap.size ≤ w1.heap.size := HB1.out.size
    have HF1 := Lib.hid ((HO12.out.grown (grown_trans grown_setCell grown_setCell) G2 (w' := (w2.setCell ⟨w.heap.size + 1, 0, none⟩ (.slice x1 y1 z1)).setCell ⟨w.heap.size + 1, 1, none⟩ (.slice x2 y2 z2))).mono (B' := w.heap.size) hw2)
    have HF2 := Lib.hid ((HO2.out.grown (grown_trans grown_setCell grown_setCell) G3 (w' := (w2.setCell ⟨w.heap.size + 1, 0, none⟩ (.slice x1 y1 z1)).setCell ⟨w.heap.size + 1, 1, none⟩ (.slice x2 y2 z2))).mono (B' := w.heap.size) hw1)
    have HF3 := Lib.hid ((HB2.out.setCell (p := ⟨w.heap.size + 1, 0, none⟩) (Nat.le_succ _) (.slice x1 y1 z1)).setCell (p := ⟨w.heap.size + 1, 1, none⟩) (Nat.le_succ _) (.slice x2 y2 z2))
    have HF4 := Lib.hid ((HR2.out.set0 (.slice x1 y1 z1)).set1 (.slice x2 y2 z2))
    have HF5 := Lib.hid AP
    clear G2 G3 AP hw2 hw1
    go_wp2
    exact bodyPost_ret (results_siInside _ _ (w.heap.size + 1) _ _ HF4.out rfl) rfl ⟨_, _, rfl, HF1.out, HF2.out, HF5.out, HF3.out⟩

theorem results_siOutside (tmps : Array Value) (w : World) (g : Nat) (v1 v2 : Value) (hg : Box2 28 w g v1 v2) (h2 : tmps.getD 6 undef = .pointer (some ⟨g, 0, none⟩)) :
    (results Try.f55 tmps).run Try.prog w = .ok (.agg #[v1, v2]) w :=
  results_cell_row (by kernel_rfl) tmps w g _ #[v1, v2] _ _ h2 hg Try.underlying28 rfl (by rw [mea_info]; rfl)
set_option maxHeartbeats 4000000 in
theorem siOutside_any (t b : List Int) (i j : Nat) (hg : goodP t b) (hij : i < j) (hj : j < t.length) (w : World) (u1 u2 : Value) (h1 : Rd w u1 t) (h2 : Rd w u2 b) :
    Calls Try.prog 55 #[.agg #[u1, u2], .int .i64 (i : Int), .int .i64 (j : Int)] w (MadeM w (outerL t i j) (outerL b i j)) := by
  have hrg : ∀ l : List Int, goodB l = true → ∀ k, k < l.length → 0 ≤ l.getD k 0 ∧ l.getD k 0 < 12 := fun l h k hk => by have := (good_facts h).2.2.1 k hk; have := good_len' h; omega
  have HT := Lib.hid (fun w u h => siOuter_any t i j hij hj (good_len' hg.1) (hrg t hg.1) w u h)
  have HBT := Lib.hid (fun w u h => siOuter_any b i j hij (by rw [← hg.2.2]; exact hj) (good_len' hg.2.1) (hrg b hg.2.1) w u h)
  generalize outerL t i j = T at *
  generalize outerL b i j = B at *
  have hz := Box2.below (Box2.new 28 w u1 u2) (Below.alloc1 _ (.cells #[.slice none 0 0, .slice none 0 0] 28))
  have hR := Box2.new 28 (w.alloc (.cells #[u1, u2] 28)) (.slice none 0 0) (.slice none 0 0)
  rw [World.size_alloc] at hR
  have B2 := Below.step (Below.alloc1 w (.cells #[u1, u2] 28)) (Below.alloc1 _ (.cells #[.slice none 0 0, .slice none 0 0] 28))
  have e0 := hz.c0; have e1 := hz.c1
  have f0 := hR.c0; have f1 := hR.c1; have f2 := hR.free 0; have f3 := hR.free 1
  have H1 := Lib.hid (h1.below B2); have H2 := Lib.hid (h2.below B2)
  have HZ := Lib.hid hz; have HR := Lib.hid hR; have HB := Lib.hid B2
  obtain ⟨a1, n1, c1, rfl⟩ : ∃ a n c, u1 = .slice a n c := by obtain ⟨a, c, e, _⟩ := h1; exact ⟨a, _, c, e⟩
  obtain ⟨a2, n2, c2, rfl⟩ : ∃ a n c, u2 = .slice a n c := by obtain ⟨a, c, e, _⟩ := h2; exact ⟨a, _, c, e⟩
  clear hz hR B2 h1 h2 hrg hg hij hj
  go_enter Try.func55, Try.ntmps55
  go_wp2_with fail
  generalize ((w.alloc (.cells #[.slice a1 n1 c1, .slice a2 n2 c2] 28)).alloc (.cells #[.slice none 0 0, .slice none 0 0] 28)) = W2 at *
  go_region_with (first
    | (go_at_call 75; ((with_reducible refine (HT.out _ _ (H1.out.below ((Below.refl _ W2).drew))).mono ?_); rintro e w1 ⟨v1, rfl, ho1, hb1⟩; obtain ⟨x1, y1, z1, rfl⟩ := ho1.form'; have HO1 := Lib.hid ho1; have hb1' : Below W2.heap.size W2 w1 := ((Below.refl _ W2).drew).trans hb1; have HR1 := Lib.hid (HR.out.below hb1'); have HB1 := Lib.hid (Below.step HB.out hb1'); have HX := Lib.hid hb1'; have d0 := (HZ.out.below hb1').c0; have d1 := (HZ.out.below hb1').c1; clear ho1 hb1 hb1'))
    | (go_at_call 75; ((with_reducible refine (HBT.out _ _ (H2.out.below HX.out)).mono ?_); rintro e w2 ⟨v2, rfl, ho2, hb2⟩; obtain ⟨x2, y2, z2, rfl⟩ := ho2.form'; have HO2 := Lib.hid ho2; have HO12 := Lib.hid (HO1.out.below hb2); have HR2 := Lib.hid (HR1.out.below hb2); have HB2 := Lib.hid (Below.step HB1.out hb2); have g0 := HR2.out.c0; have g1 := HR2.out.c1; have g2 := HR2.out.free 0; have g3 := HR2.out.free 1; clear ho2 hb2)))
  all_goals
    have G2 : ∀ k, (Value.slice x1 y1 z1).ownBlock = some k → (some (w.heap.size + 1) : Option Nat) ≠ some k := fun k hk e => by have h5 : W2.heap.size ≤ k := (HO12.out.lt k hk).1; have := HR.out.lt; simp at e; omega
    have G3 : ∀ k, (Value.slice x2 y2 z2).ownBlock = some k → (some (w.heap.size + 1) : Option Nat) ≠ some k := fun k hk e => by have h5 := (HO2.out.lt k hk).1; have := HR1.out.lt; simp at e; omega
    have AP : ApartV (.slice x1 y1 z1) (.slice x2 y2 z2) := fun k hk hk' => by have h5 := (HO1.out.lt k hk).2; have h6 := (HO2.out.lt k hk').1; omega
    have hw2 : w.heap.size ≤ W2.heap.size := HB.out.size
    have hw1 : w.heap.size ≤ w1.heap.size := HB1.out.size
    have HF1 := Lib.hid ((HO12.out.grown (grown_trans grown_setCell grown_setCell) G2 (w' := (w2.setCell ⟨w.heap.size + 1, 0, none⟩ (.slice x1 y1 z1)).setCell ⟨w.heap.size + 1, 1, none⟩ (.slice x2 y2 z2))).mono (B' := w.heap.size) hw2)
    have HF2 := Lib.hid ((HO2.out.grown (grown_trans grown_setCell grown_setCell) G3 (w' := (w2.setCell ⟨w.heap.size + 1, 0, none⟩ (.slice x1 y1 z1)).setCell ⟨w.heap.size + 1, 1, none⟩ (.slice x2 y2 z2))).mono (B' := w.heap.size) hw1)
    have HF3 := Lib.hid ((HB2.out.setCell (p := ⟨w.heap.size + 1, 0, none⟩) (Nat.le_succ _) (.slice x1 y1 z1)).setCell (p := ⟨w.heap.size + 1, 1, none⟩) (Nat.le_succ _) (.slice x2 y2 z2))
    have HF4 := Lib.hid ((HR2.out.set0 (.slice x1 y1 z1)).set1 (.slice x2 y2 z2))
    have HF5 := Lib.hid AP
    clear G2 G3 AP hw2 hw1
    go_wp2
    exact bodyPost_ret (results_siOutside _ _ (w.heap.size + 1) _ _ HF4.out rfl) rfl ⟨_, _, rfl, HF1.out, HF2.out, HF5.out, HF3.out⟩

end Go.Proofs.Ytaeeopdiodaiaaa
