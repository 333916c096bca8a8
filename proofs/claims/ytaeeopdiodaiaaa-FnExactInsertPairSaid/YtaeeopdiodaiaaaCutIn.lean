/- InsideOf, OutsideOf: the program's functions and the model's. -/
import Derived.Test.YtaeeopdiodaiaaaCutIo
namespace Go.Proofs.Ytaeeopdiodaiaaa
open Go.RowKit
set_option linter.unusedSimpArgs false
set_option linter.unusedVariables false

theorem readClosed_no (t b : List Int) (i j : Int) (h : res_IsClosed t b i j = false) (w : World) (u1 u2 : Value) (h1 : Rd w u1 t) (h2 : Rd w u2 b) :
    Calls Try.prog 52 #[.agg #[u1, u2], .int .i64 i, .int .i64 j] w (StrOut w [] [] 0 0 false) := by
  cases e : ok_IsClosed t b i j with
  | false => exact readClosed_noa t b i j e w u1 u2 h1 h2
  | true =>
    unfold res_IsClosed at h
    rw [e, Bool.true_and] at h
    simp only [ok_IsClosed, Bool.and_eq_true] at e
    obtain ⟨x, y, rfl, rfl, hxy, hy⟩ := inS_yes e.2
    exact readClosed_nob t b x y (pairOk_good e.1) hxy hy (by simpa using h) w u1 u2 h1 h2
theorem io_new (w : World) (u1 u2 : Value) : Box2 28 ((w.alloc (.cells #[u1, u2] 28)).alloc (.cells #[.slice none 0 0, .slice none 0 0] 28)) w.heap.size u1 u2 ∧ Box2 28 ((w.alloc (.cells #[u1, u2] 28)).alloc (.cells #[.slice none 0 0, .slice none 0 0] 28)) (w.heap.size + 1) (.slice none 0 0) (.slice none 0 0) ∧ Below w.heap.size w ((w.alloc (.cells #[u1, u2] 28)).alloc (.cells #[.slice none 0 0, .slice none 0 0] 28)) := by
  refine ⟨Box2.below (Box2.new _ w u1 u2) (Below.alloc1 _ _), ?_, Below.step (Below.alloc1 _ _) (Below.alloc1 _ _)⟩
  have := Box2.new 28 (w.alloc (.cells #[u1, u2] 28)) (.slice none 0 0) (.slice none 0 0)
  rw [World.size_alloc] at this
  exact this

theorem results_iInsideOf (tmps : Array Value) (w : World) (g : Nat) (v1 v2 : Value) (ok : Bool) (hg : Box2 28 w g v1 v2) (h6 : tmps.getD 6 undef = .pointer (some ⟨g, 0, none⟩)) (h7 : tmps.getD 7 undef = .bool ok) :
    (results Try.f23 tmps).run Try.prog w = .ok (.tuple #[.agg #[v1, v2], .bool ok]) w := by
  have h6' : tmps[6]?.getD undef = .pointer (some ⟨g, 0, none⟩) := by simpa using h6
  have h7' : tmps[7]?.getD undef = .bool ok := by simpa using h7
  have hr : Try.f23.results = #[.cell 6 28, .tmp 7] := by kernel_rfl
  have hl : (loadVar 28 ⟨g, 0, none⟩).run Try.prog w = .ok (.agg #[v1, v2]) w := run_loadVar_row w g _ _ #[v1, v2] _ _ hg Try.underlying28 rfl (by rw [mea_info]; rfl)
  simp [results, hr, h6', h7', asAddr, hl]
set_option maxHeartbeats 4000000 in
theorem impl_InsideOf (t b : List Int) (i j : Int) (w : World) (u1 u2 : Value) (h1 : Rd w u1 t) (h2 : Rd w u2 b) (m1 : t.length ≤ 1048576) (m2 : b.length ≤ 1048576) :
    Calls Try.prog 23 #[.agg #[u1, u2], .int .i64 i, .int .i64 j] w (GivesM w (res1_InsideOf t b i j) (res2_InsideOf t b i j) (ok_InsideOf t b i j)) := by
  unfold res1_InsideOf res2_InsideOf ok_InsideOf
  obtain ⟨hA, hR, B2⟩ := io_new w u1 u2
  have k0 := hA.c0; have k1 := hA.c1
  have HR := Lib.hid hR; have HB := Lib.hid B2; have H1 := Lib.hid (h1.below B2); have H2 := Lib.hid (h2.below B2)
  clear hA hR B2 h1 h2
  cases h : res_IsClosed t b i j with
  | false =>
    simp only [Bool.false_eq_true, if_false]
    have HC := Lib.hid (fun w h1 h2 => readClosed_no t b i j h w u1 u2 h1 h2)
    clear h
    go_enter Try.func23, Try.ntmps23
    go_wp2_with fail
    refine (HC.out _ H1.out H2.out).mono ?_
    rintro e w1 ⟨rfl, hb1⟩
    have HT := Lib.hid (two_new w1)
    have hlt : w.heap.size + 1 < w1.heap.size := (HR.out.below hb1).lt
    have HR1 := Lib.hid ((HR.out.below hb1).below HT.out.2.2); have HB1 := Lib.hid (Below.step (Below.step HB.out hb1) HT.out.2.2)
    clear hb1 k0 k1
    go_wp2_with (first
      | ((with_reducible refine wp_storePair rfl (.tmp 8) (.tmp 16) rfl w1.heap.size [] [] [] [] rfl rfl HT.out.1 ?_); intro w2 hs2 hg2; have HS2 := Lib.hid (HT.out.2.1.grown hg2 (by simp)); have HR2 := Lib.hid (HR1.out.grown hg2 (by simp; omega)); have HB2 := Lib.hid (HB1.out.grown hg2 HB1.out.size (by intro k hk; simp at hk; omega)); clear hs2 hg2)
      | ((with_reducible refine wp_storeStr rfl (.tmp 9) (.tmp 17) rfl (w1.heap.size + 1) 0 0 0 0 rfl rfl HS2.out ?_); intro w3 hs3 hg3; have HR3 := Lib.hid (HR2.out.grown hg3 (by simp; omega)); have HB3 := Lib.hid (HB2.out.grown hg3 HB2.out.size (by intro k hk; simp at hk; omega)); have q0 := HR3.out.c0; have q1 := HR3.out.c1; have q2 := HR3.out.free 0; have q3 := HR3.out.free 1; clear hs3 hg3))
    exact bodyPost_ret (results_iInsideOf _ _ (w.heap.size + 1) _ _ false ((HR3.out.set0 _).set1 _) rfl rfl) rfl ⟨_, _, rfl, Own.nil _ _, Own.nil _ _, ApartV.nil _, (HB3.out.setCell (p := ⟨w.heap.size + 1, 0, none⟩) (Nat.le_succ _) _).setCell (p := ⟨w.heap.size + 1, 1, none⟩) (Nat.le_succ _) _⟩
  | true =>
    simp only [if_true]
    obtain ⟨hgp, h0, hij, hj, hc⟩ := closed_facts h
    obtain ⟨x, rfl⟩ := Int.eq_ofNat_of_zero_le h0
    obtain ⟨y, rfl⟩ := Int.eq_ofNat_of_zero_le (by omega : 0 ≤ j)
    simp only [Int.toNat_natCast] at hc ⊢
    have hxy : x < y := by omega
    have hy : y < t.length := by omega
    have HC := Lib.hid (fun w h1 h2 => readClosed_yes t b x y hgp hxy hy hc w u1 u2 h1 h2)
    have HIN := Lib.hid (fun w => inside_any t b x y hgp hxy hy hc w)
    have l1 : (innerL t x y).length ≤ 12 := Nat.le_trans (innerL_le t x y) (pair12 hgp).1
    have l2 : (innerL b x y).length ≤ 12 := Nat.le_trans (innerL_le b x y) (pair12 hgp).2
    have HPM := Lib.hid (fun w => pairMeander_any (innerL t x y) (innerL b x y) w l1 l2)
    generalize innerL t x y = T at *
    generalize innerL b x y = B at *
    clear h hgp h0 hij hj hc hxy hy l1 l2
    go_enter Try.func23, Try.ntmps23
    go_wp2_with fail
    refine (HC.out _ H1.out H2.out).mono ?_
    rintro e w1 ⟨rfl, hb1⟩
    have HT := Lib.hid (two_new w1)
    have hlt : w.heap.size + 1 < w1.heap.size := (HR.out.below hb1).lt
    have HR1 := Lib.hid ((HR.out.below hb1).below HT.out.2.2); have HB1 := Lib.hid (Below.step (Below.step HB.out hb1) HT.out.2.2)
    clear hb1 k0 k1
    go_wp2_with (first
      | ((with_reducible refine wp_storePair rfl (.tmp 8) (.tmp 16) rfl w1.heap.size t b [] [] rfl rfl HT.out.1 ?_); intro w2 hs2 hg2; have HP2 := Lib.hid hs2; have HS2 := Lib.hid (HT.out.2.1.grown hg2 (by simp)); have HR2 := Lib.hid (HR1.out.grown hg2 (by simp; omega)); have HB2 := Lib.hid (HB1.out.grown hg2 HB1.out.size (by intro k hk; simp at hk; omega)); clear hs2 hg2)
      | ((with_reducible refine wp_storeStr rfl (.tmp 9) (.tmp 17) rfl (w1.heap.size + 1) x y 0 0 rfl rfl HS2.out ?_); intro w3 hs3 hg3; have HS3 := Lib.hid hs3; have HP3 := Lib.hid (HP2.out.grown hg3 (by simp)); have HR3 := Lib.hid (HR2.out.grown hg3 (by simp; omega)); have HB3 := Lib.hid (HB2.out.grown hg3 HB2.out.size (by intro k hk; simp at hk; omega)); clear hs3 hg3)
      | (with_reducible refine wp_loadPair rfl (.tmp 8) rfl w1.heap.size t b rfl HP3.out ?_)
      | (with_reducible refine wp_loadStr rfl (.tmp 9) rfl (w1.heap.size + 1) x y rfl HS3.out ?_)
      | (go_at_call 53; ((with_reducible refine (HIN.out _).mono ?_); rintro e w4 ⟨rfl, hb4⟩; have HR4 := Lib.hid (HR3.out.below hb4); have HB4 := Lib.hid (Below.step HB3.out hb4); clear hb4))
      | (go_at_call 54; ((with_reducible refine (HPM.out _).mono ?_); rintro e w5 ⟨v1, v2, rfl, o1, o2, ap, hb5⟩; have HR5 := Lib.hid (HR4.out.below hb5); have HB5 := Lib.hid (Below.step HB4.out hb5); have hw5 : w.heap.size + 1 < w4.heap.size := HR4.out.lt; obtain ⟨x1, y1, z1, rfl⟩ := o1.form'; obtain ⟨x2, y2, z2, rfl⟩ := o2.form'; have HO1 := Lib.hid (o1.set2 hw5 (.slice x1 y1 z1) (.slice x2 y2 z2)); have HO2 := Lib.hid (o2.set2 hw5 (.slice x1 y1 z1) (.slice x2 y2 z2)); have HAP := Lib.hid ap; have q0 := HR5.out.c0; have q1 := HR5.out.c1; have q2 := HR5.out.free 0; have q3 := HR5.out.free 1; clear o1 o2 ap hb5)))
    exact bodyPost_ret (results_iInsideOf _ _ (w.heap.size + 1) _ _ true ((HR5.out.set0 _).set1 _) rfl rfl) rfl ⟨_, _, rfl, HO1.out.mono (by omega), HO2.out.mono (by omega), HAP.out, (HB5.out.setCell (p := ⟨w.heap.size + 1, 0, none⟩) (Nat.le_succ _) _).setCell (p := ⟨w.heap.size + 1, 1, none⟩) (Nat.le_succ _) _⟩

theorem results_sInsideOf (tmps : Array Value) (w : World) (g : Nat) (v1 v2 : Value) (ok : Bool) (hg : Box2 28 w g v1 v2) (h6 : tmps.getD 6 undef = .pointer (some ⟨g, 0, none⟩)) (h7 : tmps.getD 7 undef = .bool ok) :
    (results Try.f22 tmps).run Try.prog w = .ok (.tuple #[.agg #[v1, v2], .bool ok]) w := by
  have h6' : tmps[6]?.getD undef = .pointer (some ⟨g, 0, none⟩) := by simpa using h6
  have h7' : tmps[7]?.getD undef = .bool ok := by simpa using h7
  have hr : Try.f22.results = #[.cell 6 28, .tmp 7] := by kernel_rfl
  have hl : (loadVar 28 ⟨g, 0, none⟩).run Try.prog w = .ok (.agg #[v1, v2]) w := run_loadVar_row w g _ _ #[v1, v2] _ _ hg Try.underlying28 rfl (by rw [mea_info]; rfl)
  simp [results, hr, h6', h7', asAddr, hl]
set_option maxHeartbeats 4000000 in
theorem spec_InsideOf (t b : List Int) (i j : Int) (w : World) (u1 u2 : Value) (h1 : Rd w u1 t) (h2 : Rd w u2 b) (m1 : t.length ≤ 1048576) (m2 : b.length ≤ 1048576) :
    Calls Try.prog 22 #[.agg #[u1, u2], .int .i64 i, .int .i64 j] w (GivesM w (res1_InsideOf t b i j) (res2_InsideOf t b i j) (ok_InsideOf t b i j)) := by
  unfold res1_InsideOf res2_InsideOf ok_InsideOf
  obtain ⟨hA, hR, B2⟩ := io_new w u1 u2
  have k0 := hA.c0; have k1 := hA.c1; have q0 := hR.c0; have q1 := hR.c1; have q2 := hR.free 0; have q3 := hR.free 1
  have hst := siStretch_any t b i j _ u1 u2 (h1.below B2) (h2.below B2) m1 m2
  have HA := Lib.hid hA; have HR := Lib.hid hR; have HB := Lib.hid B2; have H1 := Lib.hid (h1.below B2); have H2 := Lib.hid (h2.below B2)
  clear hA hR B2 h1 h2
  cases hk : ok_IsClosed t b i j with
  | false =>
    have h : res_IsClosed t b i j = false := by unfold res_IsClosed; rw [hk]; rfl
    rw [h]
    simp only [Bool.false_eq_true, if_false]
    rw [hk] at hst
    have HS := Lib.hid hst; clear hst hk h
    go_enter Try.func22, Try.ntmps22
    go_wp2_with fail
    refine HS.out.mono ?_
    rintro e w1 ⟨rfl, hb1⟩
    have HR1 := Lib.hid (HR.out.below hb1); have HB1 := Lib.hid (Below.step HB.out hb1)
    clear hb1 k0 k1 q0 q1 q2 q3
    have q0 := HR1.out.c0; have q1 := HR1.out.c1; have q2 := HR1.out.free 0; have q3 := HR1.out.free 1
    go_wp2_with fail
    exact bodyPost_ret (results_sInsideOf _ _ (w.heap.size + 1) _ _ false ((HR1.out.set0 _).set1 _) rfl rfl) rfl ⟨_, _, rfl, Own.nil _ _, Own.nil _ _, ApartV.nil _, (HB1.out.setCell (p := ⟨w.heap.size + 1, 0, none⟩) (Nat.le_succ _) _).setCell (p := ⟨w.heap.size + 1, 1, none⟩) (Nat.le_succ _) _⟩
  | true =>
    rw [hk] at hst
    have hk2 := hk
    simp only [ok_IsClosed, Bool.and_eq_true] at hk2
    obtain ⟨x, y, rfl, rfl, hxy, hy⟩ := inS_yes hk2.2
    have hgp := pairOk_good hk2.1
    have hcl := fun w h1 h2 => siClosed_any t b x y hxy hy hgp.2.2 (pair12 hgp).1 w u1 u2 h1 h2
    have hr : res_IsClosed t b (x : Int) (y : Int) = closedL t b x y := by unfold res_IsClosed; rw [hk]; simp
    have HIN := Lib.hid (fun w h1 h2 => siInside_any t b x y hgp hxy hy w u1 u2 h1 h2)
    rw [hr]
    have HS := Lib.hid hst
    simp only [Int.toNat_natCast]
    generalize innerL t x y = T at *
    generalize innerL b x y = B at *
    clear hst hk hk2 hr hxy hy hgp
    cases hc : closedL t b x y with
    | false =>
      rw [hc] at hcl
      have HC := Lib.hid hcl; clear hcl hc
      simp only [Bool.false_eq_true, if_false]
      go_enter Try.func22, Try.ntmps22
      go_wp2_with fail
      refine HS.out.mono ?_
      rintro e w1 ⟨rfl, hb1⟩
      have HA1 := Lib.hid (HA.out.below hb1); have HR1 := Lib.hid (HR.out.below hb1); have HB1 := Lib.hid (Below.step HB.out hb1); have H11 := Lib.hid (H1.out.below hb1); have H21 := Lib.hid (H2.out.below hb1)
      clear hb1 k0 k1 q0 q1 q2 q3
      have k0 := HA1.out.c0; have k1 := HA1.out.c1
      go_wp2_with fail
      refine (HC.out _ H11.out H21.out).mono ?_
      rintro e w2 ⟨rfl, hb2⟩
      have HR2 := Lib.hid (HR1.out.below hb2); have HB2 := Lib.hid (Below.step HB1.out hb2)
      clear hb2 k0 k1
      have q0 := HR2.out.c0; have q1 := HR2.out.c1; have q2 := HR2.out.free 0; have q3 := HR2.out.free 1
      go_wp2_with fail
      exact bodyPost_ret (results_sInsideOf _ _ (w.heap.size + 1) _ _ false ((HR2.out.set0 _).set1 _) rfl rfl) rfl ⟨_, _, rfl, Own.nil _ _, Own.nil _ _, ApartV.nil _, (HB2.out.setCell (p := ⟨w.heap.size + 1, 0, none⟩) (Nat.le_succ _) _).setCell (p := ⟨w.heap.size + 1, 1, none⟩) (Nat.le_succ _) _⟩
    | true =>
      rw [hc] at hcl
      have HC := Lib.hid hcl; clear hcl hc
      simp only [if_true]
      go_enter Try.func22, Try.ntmps22
      go_wp2_with fail
      refine HS.out.mono ?_
      rintro e w1 ⟨rfl, hb1⟩
      have HA1 := Lib.hid (HA.out.below hb1); have HR1 := Lib.hid (HR.out.below hb1); have HB1 := Lib.hid (Below.step HB.out hb1); have H11 := Lib.hid (H1.out.below hb1); have H21 := Lib.hid (H2.out.below hb1)
      clear hb1 k0 k1 q0 q1 q2 q3
      have k0 := HA1.out.c0; have k1 := HA1.out.c1
      go_wp2_with fail
      refine (HC.out _ H11.out H21.out).mono ?_
      rintro e w2 ⟨rfl, hb2⟩
      have HA2 := Lib.hid (HA1.out.below hb2); have HR2 := Lib.hid (HR1.out.below hb2); have HB2 := Lib.hid (Below.step HB1.out hb2); have H12 := Lib.hid (H11.out.below hb2); have H22 := Lib.hid (H21.out.below hb2)
      clear hb2 k0 k1
      have k0 := HA2.out.c0; have k1 := HA2.out.c1
      go_wp2_with fail
      refine (HIN.out _ H12.out H22.out).mono ?_
      rintro e w5 ⟨v1, v2, rfl, o1, o2, ap, hb5⟩
      have HR5 := Lib.hid (HR2.out.below hb5); have HB5 := Lib.hid (Below.step HB2.out hb5)
      have hw5 : w.heap.size + 1 < w2.heap.size := HR2.out.lt
      obtain ⟨x1, y1, z1, rfl⟩ := o1.form'
      obtain ⟨x2, y2, z2, rfl⟩ := o2.form'
      have HO1 := Lib.hid (o1.set2 hw5 (.slice x1 y1 z1) (.slice x2 y2 z2)); have HO2 := Lib.hid (o2.set2 hw5 (.slice x1 y1 z1) (.slice x2 y2 z2)); have HAP := Lib.hid ap
      have q0 := HR5.out.c0; have q1 := HR5.out.c1; have q2 := HR5.out.free 0; have q3 := HR5.out.free 1
      clear o1 o2 ap hb5 k0 k1
      go_wp2_with fail
      exact bodyPost_ret (results_sInsideOf _ _ (w.heap.size + 1) _ _ true ((HR5.out.set0 _).set1 _) rfl rfl) rfl ⟨_, _, rfl, HO1.out.mono (by omega), HO2.out.mono (by omega), HAP.out, (HB5.out.setCell (p := ⟨w.heap.size + 1, 0, none⟩) (Nat.le_succ _) _).setCell (p := ⟨w.heap.size + 1, 1, none⟩) (Nat.le_succ _) _⟩

theorem results_iOutsideOf (tmps : Array Value) (w : World) (g : Nat) (v1 v2 : Value) (ok : Bool) (hg : Box2 28 w g v1 v2) (h6 : tmps.getD 6 undef = .pointer (some ⟨g, 0, none⟩)) (h7 : tmps.getD 7 undef = .bool ok) :
    (results Try.f26 tmps).run Try.prog w = .ok (.tuple #[.agg #[v1, v2], .bool ok]) w := by
  have h6' : tmps[6]?.getD undef = .pointer (some ⟨g, 0, none⟩) := by simpa using h6
  have h7' : tmps[7]?.getD undef = .bool ok := by simpa using h7
  have hr : Try.f26.results = #[.cell 6 28, .tmp 7] := by kernel_rfl
  have hl : (loadVar 28 ⟨g, 0, none⟩).run Try.prog w = .ok (.agg #[v1, v2]) w := run_loadVar_row w g _ _ #[v1, v2] _ _ hg Try.underlying28 rfl (by rw [mea_info]; rfl)
  simp [results, hr, h6', h7', asAddr, hl]
set_option maxHeartbeats 4000000 in
theorem impl_OutsideOf (t b : List Int) (i j : Int) (w : World) (u1 u2 : Value) (h1 : Rd w u1 t) (h2 : Rd w u2 b) (m1 : t.length ≤ 1048576) (m2 : b.length ≤ 1048576) :
    Calls Try.prog 26 #[.agg #[u1, u2], .int .i64 i, .int .i64 j] w (GivesM w (res1_OutsideOf t b i j) (res2_OutsideOf t b i j) (ok_OutsideOf t b i j)) := by
  unfold res1_OutsideOf res2_OutsideOf ok_OutsideOf
  obtain ⟨hA, hR, B2⟩ := io_new w u1 u2
  have k0 := hA.c0; have k1 := hA.c1
  have HR := Lib.hid hR; have HB := Lib.hid B2; have H1 := Lib.hid (h1.below B2); have H2 := Lib.hid (h2.below B2)
  clear hA hR B2 h1 h2
  cases h : res_IsClosed t b i j with
  | false =>
    simp only [Bool.false_eq_true, if_false]
    have HC := Lib.hid (fun w h1 h2 => readClosed_no t b i j h w u1 u2 h1 h2)
    clear h
    go_enter Try.func26, Try.ntmps26
    go_wp2_with fail
    refine (HC.out _ H1.out H2.out).mono ?_
    rintro e w1 ⟨rfl, hb1⟩
    have HT := Lib.hid (two_new w1)
    have hlt : w.heap.size + 1 < w1.heap.size := (HR.out.below hb1).lt
    have HR1 := Lib.hid ((HR.out.below hb1).below HT.out.2.2); have HB1 := Lib.hid (Below.step (Below.step HB.out hb1) HT.out.2.2)
    clear hb1 k0 k1
    go_wp2_with (first
      | ((with_reducible refine wp_storePair rfl (.tmp 8) (.tmp 16) rfl w1.heap.size [] [] [] [] rfl rfl HT.out.1 ?_); intro w2 hs2 hg2; have HS2 := Lib.hid (HT.out.2.1.grown hg2 (by simp)); have HR2 := Lib.hid (HR1.out.grown hg2 (by simp; omega)); have HB2 := Lib.hid (HB1.out.grown hg2 HB1.out.size (by intro k hk; simp at hk; omega)); clear hs2 hg2)
      | ((with_reducible refine wp_storeStr rfl (.tmp 9) (.tmp 17) rfl (w1.heap.size + 1) 0 0 0 0 rfl rfl HS2.out ?_); intro w3 hs3 hg3; have HR3 := Lib.hid (HR2.out.grown hg3 (by simp; omega)); have HB3 := Lib.hid (HB2.out.grown hg3 HB2.out.size (by intro k hk; simp at hk; omega)); have q0 := HR3.out.c0; have q1 := HR3.out.c1; have q2 := HR3.out.free 0; have q3 := HR3.out.free 1; clear hs3 hg3))
    exact bodyPost_ret (results_iOutsideOf _ _ (w.heap.size + 1) _ _ false ((HR3.out.set0 _).set1 _) rfl rfl) rfl ⟨_, _, rfl, Own.nil _ _, Own.nil _ _, ApartV.nil _, (HB3.out.setCell (p := ⟨w.heap.size + 1, 0, none⟩) (Nat.le_succ _) _).setCell (p := ⟨w.heap.size + 1, 1, none⟩) (Nat.le_succ _) _⟩
  | true =>
    simp only [if_true]
    obtain ⟨hgp, h0, hij, hj, hc⟩ := closed_facts h
    obtain ⟨x, rfl⟩ := Int.eq_ofNat_of_zero_le h0
    obtain ⟨y, rfl⟩ := Int.eq_ofNat_of_zero_le (by omega : 0 ≤ j)
    simp only [Int.toNat_natCast] at hc ⊢
    have hxy : x < y := by omega
    have hy : y < t.length := by omega
    have HC := Lib.hid (fun w h1 h2 => readClosed_yes t b x y hgp hxy hy hc w u1 u2 h1 h2)
    have HIN := Lib.hid (fun w => outside_any t b x y hgp hxy hy hc w)
    have l1 : (outerL t x y).length ≤ 12 := Nat.le_trans (outerL_le t x y) (pair12 hgp).1
    have l2 : (outerL b x y).length ≤ 12 := Nat.le_trans (outerL_le b x y) (pair12 hgp).2
    have HPM := Lib.hid (fun w => pairMeander_any (outerL t x y) (outerL b x y) w l1 l2)
    generalize outerL t x y = T at *
    generalize outerL b x y = B at *
    clear h hgp h0 hij hj hc hxy hy l1 l2
    go_enter Try.func26, Try.ntmps26
    go_wp2_with fail
    refine (HC.out _ H1.out H2.out).mono ?_
    rintro e w1 ⟨rfl, hb1⟩
    have HT := Lib.hid (two_new w1)
    have hlt : w.heap.size + 1 < w1.heap.size := (HR.out.below hb1).lt
    have HR1 := Lib.hid ((HR.out.below hb1).below HT.out.2.2); have HB1 := Lib.hid (Below.step (Below.step HB.out hb1) HT.out.2.2)
    clear hb1 k0 k1
    go_wp2_with (first
      | ((with_reducible refine wp_storePair rfl (.tmp 8) (.tmp 16) rfl w1.heap.size t b [] [] rfl rfl HT.out.1 ?_); intro w2 hs2 hg2; have HP2 := Lib.hid hs2; have HS2 := Lib.hid (HT.out.2.1.grown hg2 (by simp)); have HR2 := Lib.hid (HR1.out.grown hg2 (by simp; omega)); have HB2 := Lib.hid (HB1.out.grown hg2 HB1.out.size (by intro k hk; simp at hk; omega)); clear hs2 hg2)
      | ((with_reducible refine wp_storeStr rfl (.tmp 9) (.tmp 17) rfl (w1.heap.size + 1) x y 0 0 rfl rfl HS2.out ?_); intro w3 hs3 hg3; have HS3 := Lib.hid hs3; have HP3 := Lib.hid (HP2.out.grown hg3 (by simp)); have HR3 := Lib.hid (HR2.out.grown hg3 (by simp; omega)); have HB3 := Lib.hid (HB2.out.grown hg3 HB2.out.size (by intro k hk; simp at hk; omega)); clear hs3 hg3)
      | (with_reducible refine wp_loadPair rfl (.tmp 8) rfl w1.heap.size t b rfl HP3.out ?_)
      | (with_reducible refine wp_loadStr rfl (.tmp 9) rfl (w1.heap.size + 1) x y rfl HS3.out ?_)
      | (go_at_call 56; ((with_reducible refine (HIN.out _).mono ?_); rintro e w4 ⟨rfl, hb4⟩; have HR4 := Lib.hid (HR3.out.below hb4); have HB4 := Lib.hid (Below.step HB3.out hb4); clear hb4))
      | (go_at_call 54; ((with_reducible refine (HPM.out _).mono ?_); rintro e w5 ⟨v1, v2, rfl, o1, o2, ap, hb5⟩; have HR5 := Lib.hid (HR4.out.below hb5); have HB5 := Lib.hid (Below.step HB4.out hb5); have hw5 : w.heap.size + 1 < w4.heap.size := HR4.out.lt; obtain ⟨x1, y1, z1, rfl⟩ := o1.form'; obtain ⟨x2, y2, z2, rfl⟩ := o2.form'; have HO1 := Lib.hid (o1.set2 hw5 (.slice x1 y1 z1) (.slice x2 y2 z2)); have HO2 := Lib.hid (o2.set2 hw5 (.slice x1 y1 z1) (.slice x2 y2 z2)); have HAP := Lib.hid ap; have q0 := HR5.out.c0; have q1 := HR5.out.c1; have q2 := HR5.out.free 0; have q3 := HR5.out.free 1; clear o1 o2 ap hb5)))
    exact bodyPost_ret (results_iOutsideOf _ _ (w.heap.size + 1) _ _ true ((HR5.out.set0 _).set1 _) rfl rfl) rfl ⟨_, _, rfl, HO1.out.mono (by omega), HO2.out.mono (by omega), HAP.out, (HB5.out.setCell (p := ⟨w.heap.size + 1, 0, none⟩) (Nat.le_succ _) _).setCell (p := ⟨w.heap.size + 1, 1, none⟩) (Nat.le_succ _) _⟩

theorem results_sOutsideOf (tmps : Array Value) (w : World) (g : Nat) (v1 v2 : Value) (ok : Bool) (hg : Box2 28 w g v1 v2) (h6 : tmps.getD 6 undef = .pointer (some ⟨g, 0, none⟩)) (h7 : tmps.getD 7 undef = .bool ok) :
    (results Try.f25 tmps).run Try.prog w = .ok (.tuple #[.agg #[v1, v2], .bool ok]) w := by
  have h6' : tmps[6]?.getD undef = .pointer (some ⟨g, 0, none⟩) := by simpa using h6
  have h7' : tmps[7]?.getD undef = .bool ok := by simpa using h7
  have hr : Try.f25.results = #[.cell 6 28, .tmp 7] := by kernel_rfl
  have hl : (loadVar 28 ⟨g, 0, none⟩).run Try.prog w = .ok (.agg #[v1, v2]) w := run_loadVar_row w g _ _ #[v1, v2] _ _ hg Try.underlying28 rfl (by rw [mea_info]; rfl)
  simp [results, hr, h6', h7', asAddr, hl]
set_option maxHeartbeats 4000000 in
theorem spec_OutsideOf (t b : List Int) (i j : Int) (w : World) (u1 u2 : Value) (h1 : Rd w u1 t) (h2 : Rd w u2 b) (m1 : t.length ≤ 1048576) (m2 : b.length ≤ 1048576) :
    Calls Try.prog 25 #[.agg #[u1, u2], .int .i64 i, .int .i64 j] w (GivesM w (res1_OutsideOf t b i j) (res2_OutsideOf t b i j) (ok_OutsideOf t b i j)) := by
  unfold res1_OutsideOf res2_OutsideOf ok_OutsideOf
  obtain ⟨hA, hR, B2⟩ := io_new w u1 u2
  have k0 := hA.c0; have k1 := hA.c1; have q0 := hR.c0; have q1 := hR.c1; have q2 := hR.free 0; have q3 := hR.free 1
  have hst := siStretch_any t b i j _ u1 u2 (h1.below B2) (h2.below B2) m1 m2
  have HA := Lib.hid hA; have HR := Lib.hid hR; have HB := Lib.hid B2; have H1 := Lib.hid (h1.below B2); have H2 := Lib.hid (h2.below B2)
  clear hA hR B2 h1 h2
  cases hk : ok_IsClosed t b i j with
  | false =>
    have h : res_IsClosed t b i j = false := by unfold res_IsClosed; rw [hk]; rfl
    rw [h]
    simp only [Bool.false_eq_true, if_false]
    rw [hk] at hst
    have HS := Lib.hid hst; clear hst hk h
    go_enter Try.func25, Try.ntmps25
    go_wp2_with fail
    refine HS.out.mono ?_
    rintro e w1 ⟨rfl, hb1⟩
    have HR1 := Lib.hid (HR.out.below hb1); have HB1 := Lib.hid (Below.step HB.out hb1)
    clear hb1 k0 k1 q0 q1 q2 q3
    have q0 := HR1.out.c0; have q1 := HR1.out.c1; have q2 := HR1.out.free 0; have q3 := HR1.out.free 1
    go_wp2_with fail
    exact bodyPost_ret (results_sOutsideOf _ _ (w.heap.size + 1) _ _ false ((HR1.out.set0 _).set1 _) rfl rfl) rfl ⟨_, _, rfl, Own.nil _ _, Own.nil _ _, ApartV.nil _, (HB1.out.setCell (p := ⟨w.heap.size + 1, 0, none⟩) (Nat.le_succ _) _).setCell (p := ⟨w.heap.size + 1, 1, none⟩) (Nat.le_succ _) _⟩
  | true =>
    rw [hk] at hst
    have hk2 := hk
    simp only [ok_IsClosed, Bool.and_eq_true] at hk2
    obtain ⟨x, y, rfl, rfl, hxy, hy⟩ := inS_yes hk2.2
    have hgp := pairOk_good hk2.1
    have hcl := fun w h1 h2 => siClosed_any t b x y hxy hy hgp.2.2 (pair12 hgp).1 w u1 u2 h1 h2
    have hr : res_IsClosed t b (x : Int) (y : Int) = closedL t b x y := by unfold res_IsClosed; rw [hk]; simp
    have HIN := Lib.hid (fun w h1 h2 => siOutside_any t b x y hgp hxy hy w u1 u2 h1 h2)
    rw [hr]
    have HS := Lib.hid hst
    simp only [Int.toNat_natCast]
    generalize outerL t x y = T at *
    generalize outerL b x y = B at *
    clear hst hk hk2 hr hxy hy hgp
    cases hc : closedL t b x y with
    | false =>
      rw [hc] at hcl
      have HC := Lib.hid hcl; clear hcl hc
      simp only [Bool.false_eq_true, if_false]
      go_enter Try.func25, Try.ntmps25
      go_wp2_with fail
      refine HS.out.mono ?_
      rintro e w1 ⟨rfl, hb1⟩
      have HA1 := Lib.hid (HA.out.below hb1); have HR1 := Lib.hid (HR.out.below hb1); have HB1 := Lib.hid (Below.step HB.out hb1); have H11 := Lib.hid (H1.out.below hb1); have H21 := Lib.hid (H2.out.below hb1)
      clear hb1 k0 k1 q0 q1 q2 q3
      have k0 := HA1.out.c0; have k1 := HA1.out.c1
      go_wp2_with fail
      refine (HC.out _ H11.out H21.out).mono ?_
      rintro e w2 ⟨rfl, hb2⟩
      have HR2 := Lib.hid (HR1.out.below hb2); have HB2 := Lib.hid (Below.step HB1.out hb2)
      clear hb2 k0 k1
      have q0 := HR2.out.c0; have q1 := HR2.out.c1; have q2 := HR2.out.free 0; have q3 := HR2.out.free 1
      go_wp2_with fail
      exact bodyPost_ret (results_sOutsideOf _ _ (w.heap.size + 1) _ _ false ((HR2.out.set0 _).set1 _) rfl rfl) rfl ⟨_, _, rfl, Own.nil _ _, Own.nil _ _, ApartV.nil _, (HB2.out.setCell (p := ⟨w.heap.size + 1, 0, none⟩) (Nat.le_succ _) _).setCell (p := ⟨w.heap.size + 1, 1, none⟩) (Nat.le_succ _) _⟩
    | true =>
      rw [hc] at hcl
      have HC := Lib.hid hcl; clear hcl hc
      simp only [if_true]
      go_enter Try.func25, Try.ntmps25
      go_wp2_with fail
      refine HS.out.mono ?_
      rintro e w1 ⟨rfl, hb1⟩
      have HA1 := Lib.hid (HA.out.below hb1); have HR1 := Lib.hid (HR.out.below hb1); have HB1 := Lib.hid (Below.step HB.out hb1); have H11 := Lib.hid (H1.out.below hb1); have H21 := Lib.hid (H2.out.below hb1)
      clear hb1 k0 k1 q0 q1 q2 q3
      have k0 := HA1.out.c0; have k1 := HA1.out.c1
      go_wp2_with fail
      refine (HC.out _ H11.out H21.out).mono ?_
      rintro e w2 ⟨rfl, hb2⟩
      have HA2 := Lib.hid (HA1.out.below hb2); have HR2 := Lib.hid (HR1.out.below hb2); have HB2 := Lib.hid (Below.step HB1.out hb2); have H12 := Lib.hid (H11.out.below hb2); have H22 := Lib.hid (H21.out.below hb2)
      clear hb2 k0 k1
      have k0 := HA2.out.c0; have k1 := HA2.out.c1
      go_wp2_with fail
      refine (HIN.out _ H12.out H22.out).mono ?_
      rintro e w5 ⟨v1, v2, rfl, o1, o2, ap, hb5⟩
      have HR5 := Lib.hid (HR2.out.below hb5); have HB5 := Lib.hid (Below.step HB2.out hb5)
      have hw5 : w.heap.size + 1 < w2.heap.size := HR2.out.lt
      obtain ⟨x1, y1, z1, rfl⟩ := o1.form'
      obtain ⟨x2, y2, z2, rfl⟩ := o2.form'
      have HO1 := Lib.hid (o1.set2 hw5 (.slice x1 y1 z1) (.slice x2 y2 z2)); have HO2 := Lib.hid (o2.set2 hw5 (.slice x1 y1 z1) (.slice x2 y2 z2)); have HAP := Lib.hid ap
      have q0 := HR5.out.c0; have q1 := HR5.out.c1; have q2 := HR5.out.free 0; have q3 := HR5.out.free 1
      clear o1 o2 ap hb5 k0 k1
      go_wp2_with fail
      exact bodyPost_ret (results_sOutsideOf _ _ (w.heap.size + 1) _ _ true ((HR5.out.set0 _).set1 _) rfl rfl) rfl ⟨_, _, rfl, HO1.out.mono (by omega), HO2.out.mono (by omega), HAP.out, (HB5.out.setCell (p := ⟨w.heap.size + 1, 0, none⟩) (Nat.le_succ _) _).setCell (p := ⟨w.heap.size + 1, 1, none⟩) (Nat.le_succ _) _⟩

end Go.Proofs.Ytaeeopdiodaiaaa
