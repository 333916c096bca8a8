/- WayFrom: the program's function and the model's. -/
import Derived.Test.YtpanajnlkacmdaaComps
namespace Go.Proofs.Ytpanajnlkacmdaa
open Go.RowKit
set_option linter.unusedSimpArgs false
set_option linter.unusedVariables false

def waysV (d : List Nat) : List Int := d.map fun (k : Nat) => (k : Int)
theorem visitW_any (w : World) (g B x : Nat) (d : List Nat) (v : Value) (hg : w.heap[g]? = some (.cells #[v] 22 (0, 0))) (ho : Own B w v (waysV d)) (hB : B ≤ w.heap.size) (hgB : g < B) (hd : d.length ≤ 1000) :
    Calls Try.prog 55 #[.int .i64 (x : Int), .pointer (some ⟨g, 0, none⟩)] w
      fun e w' => e = .returned (.tuple #[]) ∧ ∃ v' w2, w' = w2.setCell ⟨g, 0, none⟩ v' ∧ Below B w w2 ∧ w2.heap[g]? = some (.cells #[v] 22 (0, 0)) ∧ Own B w2 v' (waysV (d ++ [x])) := by
  obtain ⟨a5, n5, c5, rfl⟩ := ho.form'
  have c1 : w.cell? ⟨g, 0, none⟩ = some (.slice a5 n5 c5) := by rw [cell_of_row w g _ _ _ _ hg]; rfl
  have HL : Hid ((waysV d).length ≤ 1000) := by show _ ≤ 1000; simpa [waysV] using hd
  have HO := Lib.hid ho; have HG := Lib.hid hg; have HB := Lib.hid hB
  clear ho hg hB hd
  go_enter Try.func55, Try.ntmps55
  go_wp2_with (at_builtin; refine wp_append _ rfl _ _ rfl B _ _ (waysV d) [(x : Int)] rfl rfl (Own.below HO.out (Below.alloc1 _ _)) (Own.rd (Own.lit1 _ _ _ (Nat.le_refl _))) (by have := HL.out; simp; omega) (by have := HB.out; simp; omega) ?_; intro v' w2 hown2 hgr hbel2; obtain ⟨x1, y1, z1, rfl⟩ := hown2.form'; have hb2 := ((Below.refl B w).alloc HB.out (.cells #[.int .i64 (x : Int)] 3)).trans hbel2; have hg2 : w2.heap[g]? = some (.cells #[.slice a5 n5 c5] 22 (0, 0)) := (hb2.block g hgB).trans HG.out; have c2 : w2.cell? ⟨g, 0, none⟩ = some (.slice a5 n5 c5) := (cell_of_row w2 g _ _ _ _ hg2).trans rfl; have f2 : w2.frozen? ⟨g, 0, none⟩ = false := frozen_of_row w2 g 0 _ _ hg2; have HO2 := Lib.hid hown2; have HB2 := Lib.hid hb2; have HG2 := Lib.hid hg2; clear hgr hown2 hbel2 hb2 hg2)
  go_end0
  exact ⟨rfl, _, w2, rfl, HB2.out, HG2.out, by have := HO2.out; simpa [waysV] using this⟩

set_option maxHeartbeats 2000000 in
theorem impl_WayFrom (t b : List Int) (x : Int) (w : World) (u1 u2 : Value) (h1 : Rd w u1 t) (h2 : Rd w u2 b) (m1 : t.length ≤ 1048576) (m2 : b.length ≤ 1048576) (hx : -9223372036854775808 ≤ x ∧ x ≤ 9223372036854775807) :
    Calls Try.prog 31 #[.agg #[u1, u2], .int .i64 x] w (Gives w (res_WayFrom t b x) (ok_WayFrom t b x)) := by
  unfold res_WayFrom ok_WayFrom
  have hA := Box2.new 28 w u1 u2
  have B1 : Below w.heap.size w (w.alloc (.cells #[u1, u2] 28)) := Below.alloc1 w _
  have k0 := hA.c0; have k1 := hA.c1
  have hrd := readPair_any t b _ u1 u2 (h1.below B1) (h2.below B1)
  have HB := Lib.hid B1
  obtain ⟨hx0, hx1⟩ := hx
  clear hA B1 h1 h2
  cases hR : pairOk t b with
  | false =>
    simp only [hR, Bool.false_and, Bool.false_eq_true, if_false] at hrd ⊢
    have HR := Lib.hid hrd; clear hrd hR
    go_enter Try.func31, Try.ntmps31
    go_wp2_with fail
    refine HR.out.mono ?_
    rintro e w1 ⟨rfl, hb1⟩
    have HB1 := Lib.hid (Below.step HB.out hb1); clear hb1 k0 k1
    go_wp2_with ((with_reducible refine wp_storePairN rfl (.tmp 6) (.tmp 12) rfl [] [] rfl rfl ?_); intro w2 hs2 hb2; have HB2 := Lib.hid (Below.step HB1.out hb2); clear hs2 hb2)
    go_ret2
    exact ⟨_, rfl, Own.nil _ _, HB2.out⟩
  | true =>
    simp only [hR, Bool.true_and, if_true] at hrd ⊢
    obtain ⟨q1, q2, q3⟩ := pairOk_facts hR
    have HSZ := Lib.hid (fun w => pairSize_any t b w)
    have hn12 := good_len' q1
    have HR := Lib.hid hrd
    clear hrd hR
    by_cases hin : 0 ≤ x ∧ x ≤ (t.length : Int) - 1
    · rw [inB_yes hin.1 hin.2]
      obtain ⟨i, rfl⟩ := Int.eq_ofNat_of_zero_le hin.1
      have hi : i < t.length := by omega
      simp only [if_true, Int.toNat_natCast]
      have pb := good_paired q2
      rw [← q3] at pb
      have HW := Lib.hid (fun w p1 I h0 hP hV => walk_way t b (par t) (par b) t.length i (good_paired q1) pb (good_len' q1) hi (fun k hk => good_cell q1 k hk) (fun k hk => good_cell q2 k (by omega)) w p1 I h0 hP hV)
      have HWL := Lib.hid (wayN_len (par t) (par b) t.length i)
      unfold wayV
      generalize wayN (par t) (par b) t.length i = W at *
      obtain ⟨n, hn⟩ : ∃ n, n = t.length := ⟨_, rfl⟩
      rw [← hn] at hn12 HSZ HW hi HWL
      clear hn q1 q2 q3 pb hin
      have hx2 : ¬ ((i : Int) < 0) := by omega
      have hd1 : decide ((i : Int) < 0) = false := decide_eq_false hx2
      have hd2 : decide ((n : Int) ≤ (i : Int)) = false := decide_eq_false (by omega)
      go_enter Try.func31, Try.ntmps31
      go_wp2_with fail
      refine HR.out.mono ?_
      rintro e w1 ⟨rfl, hb1⟩
      have HB1 := Lib.hid (Below.step HB.out hb1); clear hb1 k0 k1
      go_wp2_with (first
        | ((with_reducible refine wp_storePairN rfl (.tmp 6) (.tmp 12) rfl t b rfl rfl ?_); intro w2 hs2 hb2; have HS2 := Lib.hid hs2; have HB2 := Lib.hid (Below.step HB1.out hb2); clear hs2 hb2)
        | (with_reducible refine wp_loadPairG (.tmp 6) rfl w1.heap.size t b rfl HS2.out (by first | with_unfolding_all rfl | (simp only [hd1, hd2, Bool.or_false]; with_unfolding_all rfl)) ?_)
        | (go_at_call 50; ((with_reducible refine (HSZ.out _).mono ?_); rintro e w3 ⟨rfl, hb3⟩; have HS3 := Lib.hid (HS2.out.below hb3); have HB3 := Lib.hid (Below.step HB2.out hb3); have HS4 := Lib.hid (HS3.out.below (Below.alloc1 w3 (.cells #[.slice none 0 0] 22))); have HB4 := Lib.hid (Below.step HB3.out (Below.alloc1 w3 (.cells #[.slice none 0 0] 22))); clear hb3))
        | (with_reducible refine wp_loadPair rfl (.tmp 6) rfl w1.heap.size t b rfl HS4.out ?_))
      have hsz : w.heap.size ≤ w3.heap.size := HB3.out.size
      have e4 : (w3.alloc (.cells #[.slice none 0 0] 22)).heap.size = w3.heap.size + 1 := World.size_alloc _ _
      refine (HW.out _ (.pointer (some ⟨w3.heap.size, 0, none⟩)) (fun d w' => ∃ v, w'.heap[w3.heap.size]? = some (.cells #[v] 22 (0, 0)) ∧ Own (w3.heap.size + 1 + 1) w' v (waysV d) ∧ PairIn w' (w3.heap.size + 1) t b ∧ Below w.heap.size w w') ?_ ?_ ?_).mono ?_
      · refine ⟨.slice none 0 0, blk_below (heap_alloc_new w3 _) (Below.alloc1 _ _), Own.nil _ _, ?_, Below.step HB4.out (Below.alloc1 _ _)⟩
        have := PairIn.new (w3.alloc (.cells #[.slice none 0 0] 22)) t b
        rw [e4] at this
        exact this
      · rintro d w' ⟨v, _, _, h, _⟩
        rw [e4]; exact h
      · rintro d y w' ⟨v, hg, ho, hp, hb⟩ hy hd
        have hlt := hp.lt
        refine (visitW_any w' w3.heap.size (w3.heap.size + 1 + 1) y d v hg ho (by omega) (by omega) (by omega)).mono ?_
        rintro e w'' ⟨he, v', w2, rfl, hb2, hg2, ho2⟩
        refine ⟨he, v', heap_setCell_same w2 _ 0 _ _ v' hg2, ho2.grown grown_setCell (fun k hk e => by have := (ho2.lt k hk).1; simp at e; omega), PairIn.setOther ((hb2.block _ (by omega)).trans hp) (by omega), ?_⟩
        exact (hb.trans (hb2.mono (by omega))).setCell (p := ⟨w3.heap.size, 0, none⟩) hsz _
      · rintro e w5 ⟨rfl, v, hg, ho, hp, hb⟩
        obtain ⟨x1, y1, z1, rfl⟩ := ho.form'
        have c5 : w5.cell? ⟨w3.heap.size, 0, none⟩ = some (.slice x1 y1 z1) := (cell_of_row w5 _ 0 _ _ _ hg).trans rfl
        have HO := Lib.hid ho; have HBE := Lib.hid hb
        clear hg ho hp hb
        go_wp2
        go_ret2
        exact ⟨_, rfl, HO.out.mono (by omega), HBE.out⟩
    · rw [inB_no hin]
      obtain ⟨n, hn⟩ : ∃ n, n = t.length := ⟨_, rfl⟩
      rw [← hn] at hn12 HSZ hin
      clear hn q1 q2 q3
      simp only [Bool.false_eq_true, if_false]
      by_cases hneg : x < 0
      · have hd1 : decide (x < 0) = true := decide_eq_true hneg
        clear hin
        go_enter Try.func31, Try.ntmps31
        go_wp2_with fail
        refine HR.out.mono ?_
        rintro e w1 ⟨rfl, hb1⟩
        have HB1 := Lib.hid (Below.step HB.out hb1); clear hb1 k0 k1
        go_wp2_with ((with_reducible refine wp_storePairN rfl (.tmp 6) (.tmp 12) rfl t b rfl rfl ?_); intro w2 hs2 hb2; have HB2 := Lib.hid (Below.step HB1.out hb2); clear hs2 hb2)
        go_ret2
        exact ⟨_, rfl, Own.nil _ _, HB2.out⟩
      · obtain ⟨i, rfl⟩ := Int.eq_ofNat_of_zero_le (by omega : 0 ≤ x)
        have hx2 : ¬ ((i : Int) < 0) := by omega
        have hd1 : decide ((i : Int) < 0) = false := decide_eq_false hx2
        have hge : (n : Int) ≤ (i : Int) := by omega
        have hgn : n ≤ i := by omega
        have hd2 : decide ((n : Int) ≤ (i : Int)) = true := decide_eq_true hge
        clear hin hneg
        go_enter Try.func31, Try.ntmps31
        go_wp2_with fail
        refine HR.out.mono ?_
        rintro e w1 ⟨rfl, hb1⟩
        have HB1 := Lib.hid (Below.step HB.out hb1); clear hb1 k0 k1
        go_wp2_with (first
          | ((with_reducible refine wp_storePairN rfl (.tmp 6) (.tmp 12) rfl t b rfl rfl ?_); intro w2 hs2 hb2; have HS2 := Lib.hid hs2; have HB2 := Lib.hid (Below.step HB1.out hb2); clear hs2 hb2)
          | (with_reducible refine wp_loadPairG (.tmp 6) rfl w1.heap.size t b rfl HS2.out (by first | with_unfolding_all rfl | (simp only [hd1, hd2, Bool.or_false]; with_unfolding_all rfl)) ?_)
          | (go_at_call 50; ((with_reducible refine (HSZ.out _).mono ?_); rintro e w3 ⟨rfl, hb3⟩; have HB3 := Lib.hid (Below.step HB2.out hb3); clear hb3)))
        go_ret2
        exact ⟨_, rfl, Own.nil _ _, HB3.out⟩

theorem l1In_bool (n lo hi : Int) (w : World) : Calls Try.prog 52 #[.int .i64 n, .int .i64 lo, .int .i64 hi] w fun e w' => e = .returned (.bool (inB n lo hi)) ∧ w = w' := l1In_any n lo hi w

set_option maxHeartbeats 1000000 in
theorem spec_WayFrom (t b : List Int) (x : Int) (w : World) (u1 u2 : Value) (h1 : Rd w u1 t) (h2 : Rd w u2 b) (m1 : t.length ≤ 1048576) (m2 : b.length ≤ 1048576) (hx : -9223372036854775808 ≤ x ∧ x ≤ 9223372036854775807) :
    Calls Try.prog 30 #[.agg #[u1, u2], .int .i64 x] w (Gives w (res_WayFrom t b x) (ok_WayFrom t b x)) := by
  unfold res_WayFrom ok_WayFrom
  have hA := Box2.new 28 w u1 u2
  have B1 : Below w.heap.size w (w.alloc (.cells #[u1, u2] 28)) := Below.alloc1 w _
  have k0 := hA.c0; have k1 := hA.c1
  have hrd := mePair_any t b _ u1 u2 (h1.below B1) (h2.below B1) m1 m2
  have HB := Lib.hid B1; have HA := Lib.hid hA; have H1 := Lib.hid (h1.below B1); have H2 := Lib.hid (h2.below B1)
  clear hA B1
  cases e1 : pairOk t b with
  | false =>
    rw [e1] at hrd
    simp only [Bool.false_and, Bool.false_eq_true, if_false]
    have HR := Lib.hid hrd; clear hrd e1 h1 h2
    go_enter Try.func30, Try.ntmps30
    go_wp2_with fail
    refine HR.out.mono ?_
    rintro e w1 ⟨rfl, hb1⟩
    go_wp2
    go_ret2
    exact ⟨_, rfl, Own.nil _ _, Below.step HB.out hb1⟩
  | true =>
    rw [e1] at hrd
    simp only [Bool.true_and]
    obtain ⟨g1, g2, g3⟩ := pairOk_facts e1
    have HR := Lib.hid hrd
    have hn12 := good_len' g1
    obtain ⟨a1, c1, rfl, p1, p2, _⟩ := h1
    unfold maxLen at p2
    cases hin : inB x 0 ((t.length : Int) - 1) with
    | false =>
      have HL := Lib.hid (fun w => hin ▸ l1In_bool x 0 ((t.length : Int) - 1) w)
      simp only [Bool.false_eq_true, if_false]
      generalize t.length = n at *
      clear hrd e1 g1 g2 g3 hin
      go_enter Try.func30, Try.ntmps30
      go_wp2_with fail
      refine HR.out.mono ?_
      rintro e w1 ⟨rfl, hb1⟩
      have m0 := (HA.out.below hb1).c0
      have HB1 := Lib.hid (Below.step HB.out hb1)
      clear hb1 k0 k1
      go_wp2_with (go_at_call 52; ((with_reducible refine (HL.out _).mono ?_); rintro e w2 ⟨rfl, rfl⟩))
      go_ret2
      exact ⟨_, rfl, Own.nil _ _, HB1.out⟩
    | true =>
      have HL := Lib.hid (fun w => hin ▸ l1In_bool x 0 ((t.length : Int) - 1) w)
      have hin2 := inB_iff.1 hin
      obtain ⟨i, rfl⟩ := Int.eq_ofNat_of_zero_le hin2.1
      have HT := Lib.hid (fun w h1 h2 => meWay_any t b g1 g2 g3 w (.slice a1 t.length c1) u2 h1 h2 i (by omega))
      simp only [if_true, Int.toNat_natCast]
      generalize wayV (par t) (par b) t.length i = W at *
      generalize t.length = n at *
      clear hrd e1 g1 g2 g3 hin
      go_enter Try.func30, Try.ntmps30
      go_wp2_with fail
      refine HR.out.mono ?_
      rintro e w1 ⟨rfl, hb1⟩
      have m0 := (HA.out.below hb1).c0; have m1 := (HA.out.below hb1).c1
      have H11 := Lib.hid (H1.out.below hb1); have H21 := Lib.hid (H2.out.below hb1); have HB1 := Lib.hid (Below.step HB.out hb1)
      clear hb1 k0 k1
      go_wp2_with (go_at_call 52; ((with_reducible refine (HL.out _).mono ?_); rintro e w2 ⟨rfl, rfl⟩))
      refine (HT.out _ H11.out H21.out).mono ?_
      rintro e w3 ⟨v, rfl, ho3, hb3⟩
      obtain ⟨x1, y1, z1, rfl⟩ := ho3.form'
      have HO3 := Lib.hid ho3; clear ho3
      go_wp2
      go_ret2
      exact ⟨_, rfl, HO3.out.mono HB1.out.size, Below.step HB1.out hb3⟩

end Go.Proofs.Ytpanajnlkacmdaa
