/- JoinMeanders: the program's function and the model's. -/
import Derived.Test.YtbinpefogecgmabFlip
import Derived.Test.YtbinpefogecgmabJoinSys
namespace Go.Proofs.Ytbinpefogecgmab
open Go.RowKit
set_option linter.unusedSimpArgs false
set_option linter.unusedVariables false

def ok_JoinMeanders (t b p q : List Int) : Bool := pairOk t b && pairOk p q && decide (t.length + p.length ≤ 12)
def res1_JoinMeanders (t b p q : List Int) : List Int := if ok_JoinMeanders t b p q then joinL t p else []
def res2_JoinMeanders (t b p q : List Int) : List Int := if ok_JoinMeanders t b p q then joinL b q else []
theorem len_JoinMeanders (t b p q : List Int) : (res1_JoinMeanders t b p q).length ≤ 1000000 ∧ (res2_JoinMeanders t b p q).length ≤ 1000000 := by
  unfold res1_JoinMeanders res2_JoinMeanders
  cases h : ok_JoinMeanders t b p q with
  | false => simp
  | true =>
    simp only [ok_JoinMeanders, Bool.and_eq_true, decide_eq_true_eq] at h
    obtain ⟨g1, g2, g3⟩ := pairOk_facts h.1.1
    obtain ⟨g4, g5, g6⟩ := pairOk_facts h.1.2
    have hl := h.2
    have z1 := good_len' g1; have z2 := good_len' g4
    have y1 : (joinL t p).length = t.length + p.length := by simp [joinL, shiftL_length]
    have y2 : (joinL b q).length = b.length + q.length := by simp [joinL, shiftL_length]
    simp; omega

theorem results_jmspec (tmps : Array Value) (w : World) (g : Nat) (v1 v2 : Value) (ok : Bool) (hg : Box2 26 w g v1 v2) (h2 : tmps.getD 4 undef = .pointer (some ⟨g, 0, none⟩)) (h3 : tmps.getD 5 undef = .bool ok) :
    (results Try.f19 tmps).run Try.prog w = .ok (.tuple #[.agg #[v1, v2], .bool ok]) w := by
  have h2' : tmps[4]?.getD undef = .pointer (some ⟨g, 0, none⟩) := by simpa using h2
  have h3' : tmps[5]?.getD undef = .bool ok := by simpa using h3
  have hr : Try.f19.results = #[.cell 4 26, .tmp 5] := by kernel_rfl
  simp [results, hr, h2', h3', asAddr, run_loadMea w g v1 v2 hg]

set_option maxHeartbeats 8000000 in
theorem spec_JoinMeanders (t b p q : List Int) (w : World) (u1 u2 u3 u4 : Value) (h1 : Rd w u1 t) (h2 : Rd w u2 b) (h3 : Rd w u3 p) (h4 : Rd w u4 q) (m1 : t.length ≤ 1048576) (m2 : b.length ≤ 1048576) (m3 : p.length ≤ 1048576) (m4 : q.length ≤ 1048576) :
    Calls Try.prog 19 #[.agg #[u1, u2], .agg #[u3, u4]] w (GivesM w (res1_JoinMeanders t b p q) (res2_JoinMeanders t b p q) (ok_JoinMeanders t b p q)) := by
  unfold res1_JoinMeanders res2_JoinMeanders ok_JoinMeanders
  have hA := Box2.below (Box2.below (Box2.new 26 w u1 u2) (Below.alloc1 _ (.cells #[u3, u4] 26))) (Below.alloc1 _ (.cells #[.slice none 0 0, .slice none 0 0] 26))
  have hX := Box2.below (Box2.new 26 (w.alloc (.cells #[u1, u2] 26)) u3 u4) (Below.alloc1 _ (.cells #[.slice none 0 0, .slice none 0 0] 26))
  have hR := Box2.new 26 ((w.alloc (.cells #[u1, u2] 26)).alloc (.cells #[u3, u4] 26)) (.slice none 0 0) (.slice none 0 0)
  rw [World.size_alloc] at hX
  rw [World.size_alloc, World.size_alloc] at hR
  have B3 := Below.step (Below.step (Below.alloc1 w (.cells #[u1, u2] 26)) (Below.alloc1 _ (.cells #[u3, u4] 26))) (Below.alloc1 _ (.cells #[.slice none 0 0, .slice none 0 0] 26))
  have k0 := hA.c0; have k1 := hA.c1
  have HA := Lib.hid hA; have HX := Lib.hid hX; have HR := Lib.hid hR; have HB := Lib.hid B3
  have H1 := Lib.hid (h1.below B3); have H2 := Lib.hid (h2.below B3); have H3 := Lib.hid (h3.below B3); have H4 := Lib.hid (h4.below B3)
  have ht1 := fun w h1 h2 => mePair_any t b w u1 u2 h1 h2 m1 m2
  have ht2 := fun w h1 h2 => mePair_any p q w u3 u4 h1 h2 m3 m4
  have hs1 := fun w h h' => spec_JoinSystems t p w u1 u3 h h' m1 m3
  have hs2 := fun w h h' => spec_JoinSystems b q w u2 u4 h h' m2 m4
  unfold res_JoinSystems ok_JoinSystems at hs1 hs2
  clear hA hX hR B3 h1 h2 h3 h4
  cases e1 : pairOk t b with
  | false =>
    simp only [e1] at ht1
    have HT1 := Lib.hid ht1; clear ht1 ht2 hs1 hs2 e1
    simp only [Bool.false_and, Bool.false_eq_true, if_false]
    go_enter Try.func19, Try.ntmps19
    go_wp2_with fail
    refine (HT1.out _ H1.out H2.out).mono ?_
    rintro e w1 ⟨rfl, hb1⟩
    have HA1 := Lib.hid (HA.out.below hb1); have HX1 := Lib.hid (HX.out.below hb1); have HR1 := Lib.hid (HR.out.below hb1); have HB1 := Lib.hid (Below.step HB.out hb1); have H11 := Lib.hid (H1.out.below hb1); have H21 := Lib.hid (H2.out.below hb1); have H31 := Lib.hid (H3.out.below hb1); have H41 := Lib.hid (H4.out.below hb1)
    clear hb1 k0 k1
    have g0 := HR1.out.c0; have g1 := HR1.out.c1; have g2 := HR1.out.free 0; have g3 := HR1.out.free 1
    go_wp2
    exact bodyPost_ret (results_jmspec _ _ (w.heap.size + 1 + 1) _ _ false ((HR1.out.set0 _).set1 _) rfl rfl) rfl ⟨_, _, rfl, Own.nil _ _, Own.nil _ _, ApartV.nil _, (HB1.out.setCell (p := ⟨w.heap.size + 1 + 1, 0, none⟩) (by show w.heap.size ≤ w.heap.size + 1 + 1; omega) _).setCell (p := ⟨w.heap.size + 1 + 1, 1, none⟩) (by show w.heap.size ≤ w.heap.size + 1 + 1; omega) _⟩
  | true =>
    cases e2 : pairOk p q with
    | false =>
      simp only [e1] at ht1
      simp only [e2] at ht2
      have HT1 := Lib.hid ht1; have HT2 := Lib.hid ht2; clear ht1 ht2 hs1 hs2 e1 e2
      simp only [Bool.and_false, Bool.false_and, Bool.false_eq_true, if_false]
      go_enter Try.func19, Try.ntmps19
      go_wp2_with fail
      refine (HT1.out _ H1.out H2.out).mono ?_
      rintro e w1 ⟨rfl, hb1⟩
      have HA1 := Lib.hid (HA.out.below hb1); have HX1 := Lib.hid (HX.out.below hb1); have HR1 := Lib.hid (HR.out.below hb1); have HB1 := Lib.hid (Below.step HB.out hb1); have H11 := Lib.hid (H1.out.below hb1); have H21 := Lib.hid (H2.out.below hb1); have H31 := Lib.hid (H3.out.below hb1); have H41 := Lib.hid (H4.out.below hb1)
      clear hb1 k0 k1
      have k2 := HX1.out.c0; have k3 := HX1.out.c1
      go_wp2_with fail
      refine (HT2.out _ H31.out H41.out).mono ?_
      rintro e w2 ⟨rfl, hb2⟩
      have HA2 := Lib.hid (HA1.out.below hb2); have HX2 := Lib.hid (HX1.out.below hb2); have HR2 := Lib.hid (HR1.out.below hb2); have HB2 := Lib.hid (Below.step HB1.out hb2); have H12 := Lib.hid (H11.out.below hb2); have H22 := Lib.hid (H21.out.below hb2); have H32 := Lib.hid (H31.out.below hb2); have H42 := Lib.hid (H41.out.below hb2)
      clear hb2 k2 k3
      have g0 := HR2.out.c0; have g1 := HR2.out.c1; have g2 := HR2.out.free 0; have g3 := HR2.out.free 1
      go_wp2
      exact bodyPost_ret (results_jmspec _ _ (w.heap.size + 1 + 1) _ _ false ((HR2.out.set0 _).set1 _) rfl rfl) rfl ⟨_, _, rfl, Own.nil _ _, Own.nil _ _, ApartV.nil _, (HB2.out.setCell (p := ⟨w.heap.size + 1 + 1, 0, none⟩) (by show w.heap.size ≤ w.heap.size + 1 + 1; omega) _).setCell (p := ⟨w.heap.size + 1 + 1, 1, none⟩) (by show w.heap.size ≤ w.heap.size + 1 + 1; omega) _⟩
    | true =>
      obtain ⟨g1, g2, g3⟩ := pairOk_facts e1
      obtain ⟨g4, g5, g6⟩ := pairOk_facts e2
      simp only [e1] at ht1
      simp only [e2] at ht2
      simp only [Bool.true_and]
      rw [← g3, ← g6] at hs2
      simp only [g1, g4, Bool.true_and] at hs1
      simp only [g2, g5, Bool.true_and] at hs2
      have HT1 := Lib.hid ht1; have HT2 := Lib.hid ht2; clear ht1 ht2 e1 e2 g1 g2 g3 g4 g5 g6
      generalize decide (t.length + p.length ≤ 12) = D at hs1 hs2 ⊢
      cases D with
      | false =>
        simp only [Bool.false_eq_true, if_false] at hs1 hs2 ⊢
        have HS1 := Lib.hid hs1; have HS2 := Lib.hid hs2; clear hs1 hs2
        go_enter Try.func19, Try.ntmps19
        go_wp2_with fail
        refine (HT1.out _ H1.out H2.out).mono ?_
        rintro e w1 ⟨rfl, hb1⟩
        have HA1 := Lib.hid (HA.out.below hb1); have HX1 := Lib.hid (HX.out.below hb1); have HR1 := Lib.hid (HR.out.below hb1); have HB1 := Lib.hid (Below.step HB.out hb1); have H11 := Lib.hid (H1.out.below hb1); have H21 := Lib.hid (H2.out.below hb1); have H31 := Lib.hid (H3.out.below hb1); have H41 := Lib.hid (H4.out.below hb1)
        clear hb1 k0 k1
        have k2 := HX1.out.c0; have k3 := HX1.out.c1
        go_wp2_with fail
        refine (HT2.out _ H31.out H41.out).mono ?_
        rintro e w2 ⟨rfl, hb2⟩
        have HA2 := Lib.hid (HA1.out.below hb2); have HX2 := Lib.hid (HX1.out.below hb2); have HR2 := Lib.hid (HR1.out.below hb2); have HB2 := Lib.hid (Below.step HB1.out hb2); have H12 := Lib.hid (H11.out.below hb2); have H22 := Lib.hid (H21.out.below hb2); have H32 := Lib.hid (H31.out.below hb2); have H42 := Lib.hid (H41.out.below hb2)
        clear hb2 k2 k3
        have k4 := HA2.out.c0; have k5 := HX2.out.c0
        go_wp2_with fail
        refine (HS1.out _ H12.out H32.out).mono ?_
        rintro e w3 ⟨v1, rfl, ho1, hb3⟩
        obtain ⟨x1, y1, z1, rfl⟩ := ho1.form'
        have HO1 := Lib.hid ho1; have HA3 := Lib.hid (HA2.out.below hb3); have HX3 := Lib.hid (HX2.out.below hb3); have HR3 := Lib.hid (HR2.out.below hb3); have HB3 := Lib.hid (Below.step HB2.out hb3); have H23 := Lib.hid (H22.out.below hb3); have H43 := Lib.hid (H42.out.below hb3)
        clear hb3 k4 k5 ho1
        have g0 := HR3.out.c0; have g1 := HR3.out.c1; have g2 := HR3.out.free 0; have g3 := HR3.out.free 1
        go_wp2
        exact bodyPost_ret (results_jmspec _ _ (w.heap.size + 1 + 1) _ _ false ((HR3.out.set0 _).set1 _) rfl rfl) rfl ⟨_, _, rfl, Own.nil _ _, Own.nil _ _, ApartV.nil _, (HB3.out.setCell (p := ⟨w.heap.size + 1 + 1, 0, none⟩) (by show w.heap.size ≤ w.heap.size + 1 + 1; omega) _).setCell (p := ⟨w.heap.size + 1 + 1, 1, none⟩) (by show w.heap.size ≤ w.heap.size + 1 + 1; omega) _⟩
      | true =>
        simp only [if_true] at hs1 hs2 ⊢
        have HS1 := Lib.hid hs1; have HS2 := Lib.hid hs2; clear hs1 hs2
        go_enter Try.func19, Try.ntmps19
        go_wp2_with fail
        refine (HT1.out _ H1.out H2.out).mono ?_
        rintro e w1 ⟨rfl, hb1⟩
        have HA1 := Lib.hid (HA.out.below hb1); have HX1 := Lib.hid (HX.out.below hb1); have HR1 := Lib.hid (HR.out.below hb1); have HB1 := Lib.hid (Below.step HB.out hb1); have H11 := Lib.hid (H1.out.below hb1); have H21 := Lib.hid (H2.out.below hb1); have H31 := Lib.hid (H3.out.below hb1); have H41 := Lib.hid (H4.out.below hb1)
        clear hb1 k0 k1
        have k2 := HX1.out.c0; have k3 := HX1.out.c1
        go_wp2_with fail
        refine (HT2.out _ H31.out H41.out).mono ?_
        rintro e w2 ⟨rfl, hb2⟩
        have HA2 := Lib.hid (HA1.out.below hb2); have HX2 := Lib.hid (HX1.out.below hb2); have HR2 := Lib.hid (HR1.out.below hb2); have HB2 := Lib.hid (Below.step HB1.out hb2); have H12 := Lib.hid (H11.out.below hb2); have H22 := Lib.hid (H21.out.below hb2); have H32 := Lib.hid (H31.out.below hb2); have H42 := Lib.hid (H41.out.below hb2)
        clear hb2 k2 k3
        have k4 := HA2.out.c0; have k5 := HX2.out.c0
        go_wp2_with fail
        refine (HS1.out _ H12.out H32.out).mono ?_
        rintro e w3 ⟨v1, rfl, ho1, hb3⟩
        obtain ⟨x1, y1, z1, rfl⟩ := ho1.form'
        have HO1 := Lib.hid ho1; have HA3 := Lib.hid (HA2.out.below hb3); have HX3 := Lib.hid (HX2.out.below hb3); have HR3 := Lib.hid (HR2.out.below hb3); have HB3 := Lib.hid (Below.step HB2.out hb3); have H23 := Lib.hid (H22.out.below hb3); have H43 := Lib.hid (H42.out.below hb3)
        clear hb3 k4 k5 ho1
        have k6 := HA3.out.c1; have k7 := HX3.out.c1
        go_wp2_with fail
        refine (HS2.out _ H23.out H43.out).mono ?_
        rintro e w4 ⟨v2, rfl, ho2, hb4⟩
        obtain ⟨x2, y2, z2, rfl⟩ := ho2.form'
        have HO2 := Lib.hid ho2; have HO12 := Lib.hid (HO1.out.below hb4); have HR4 := Lib.hid (HR3.out.below hb4); have HB4 := Lib.hid (Below.step HB3.out hb4)
        have AP := Lib.hid (show ApartV (.slice x1 y1 z1) (.slice x2 y2 z2) from fun k hk hk' => by have h5 := (HO1.out.lt k hk).2; have h6 := (HO2.out.lt k hk').1; omega)
        clear hb4 k6 k7 ho2
        have g0 := HR4.out.c0; have g1 := HR4.out.c1; have g2 := HR4.out.free 0; have g3 := HR4.out.free 1
        go_wp2
        have hlt := HR2.out.lt; have hb2 := HB2.out.size; have hb3 := HB3.out.size
        have G2 : ∀ k, (Value.slice x1 y1 z1).ownBlock = some k → (some (w.heap.size + 1 + 1) : Option Nat) ≠ some k := fun k hk e => by have h5 := (HO12.out.lt k hk).1; simp at e; omega
        have hlt3 := HR3.out.lt
        have G3 : ∀ k, (Value.slice x2 y2 z2).ownBlock = some k → (some (w.heap.size + 1 + 1) : Option Nat) ≠ some k := fun k hk e => by have h5 := (HO2.out.lt k hk).1; simp at e; omega
        exact bodyPost_ret (results_jmspec _ _ (w.heap.size + 1 + 1) _ _ true ((HR4.out.set0 _).set1 _) rfl rfl) rfl ⟨_, _, rfl, (HO12.out.grown (grown_trans grown_setCell grown_setCell) G2).mono hb2, (HO2.out.grown (grown_trans grown_setCell grown_setCell) G3).mono hb3, AP.out, (HB4.out.setCell (p := ⟨w.heap.size + 1 + 1, 0, none⟩) (by show w.heap.size ≤ w.heap.size + 1 + 1; omega) _).setCell (p := ⟨w.heap.size + 1 + 1, 1, none⟩) (by show w.heap.size ≤ w.heap.size + 1 + 1; omega) _⟩

theorem results_jmimpl (tmps : Array Value) (w : World) (g : Nat) (v1 v2 : Value) (ok : Bool) (hg : Box2 26 w g v1 v2) (h2 : tmps.getD 4 undef = .pointer (some ⟨g, 0, none⟩)) (h3 : tmps.getD 5 undef = .bool ok) :
    (results Try.f18 tmps).run Try.prog w = .ok (.tuple #[.agg #[v1, v2], .bool ok]) w := by
  have h2' : tmps[4]?.getD undef = .pointer (some ⟨g, 0, none⟩) := by simpa using h2
  have h3' : tmps[5]?.getD undef = .bool ok := by simpa using h3
  have hr : Try.f18.results = #[.cell 4 26, .tmp 5] := by kernel_rfl
  simp [results, hr, h2', h3', asAddr, run_loadMea w g v1 v2 hg]

set_option maxHeartbeats 8000000 in
theorem impl_JoinMeanders (t b p q : List Int) (w : World) (u1 u2 u3 u4 : Value) (h1 : Rd w u1 t) (h2 : Rd w u2 b) (h3 : Rd w u3 p) (h4 : Rd w u4 q) (m1 : t.length ≤ 1048576) (m2 : b.length ≤ 1048576) (m3 : p.length ≤ 1048576) (m4 : q.length ≤ 1048576) :
    Calls Try.prog 18 #[.agg #[u1, u2], .agg #[u3, u4]] w (GivesM w (res1_JoinMeanders t b p q) (res2_JoinMeanders t b p q) (ok_JoinMeanders t b p q)) := by
  unfold res1_JoinMeanders res2_JoinMeanders ok_JoinMeanders
  have hA := Box2.below (Box2.below (Box2.new 26 w u1 u2) (Below.alloc1 _ (.cells #[u3, u4] 26))) (Below.alloc1 _ (.cells #[.slice none 0 0, .slice none 0 0] 26))
  have hX := Box2.below (Box2.new 26 (w.alloc (.cells #[u1, u2] 26)) u3 u4) (Below.alloc1 _ (.cells #[.slice none 0 0, .slice none 0 0] 26))
  have hR := Box2.new 26 ((w.alloc (.cells #[u1, u2] 26)).alloc (.cells #[u3, u4] 26)) (.slice none 0 0) (.slice none 0 0)
  rw [World.size_alloc] at hX
  rw [World.size_alloc, World.size_alloc] at hR
  have B3 := Below.step (Below.step (Below.alloc1 w (.cells #[u1, u2] 26)) (Below.alloc1 _ (.cells #[u3, u4] 26))) (Below.alloc1 _ (.cells #[.slice none 0 0, .slice none 0 0] 26))
  have k0 := hA.c0; have k1 := hA.c1
  have HA := Lib.hid hA; have HX := Lib.hid hX; have HR := Lib.hid hR; have HB := Lib.hid B3
  have H1 := Lib.hid (h1.below B3); have H2 := Lib.hid (h2.below B3); have H3 := Lib.hid (h3.below B3); have H4 := Lib.hid (h4.below B3)
  have ht1 := fun w h1 h2 => impl_IsPair t b w u1 u2 h1 h2 m1 m2
  have ht2 := fun w h1 h2 => impl_IsPair p q w u3 u4 h1 h2 m3 m4
  unfold ok_IsPair at ht1 ht2
  have hs1 := fun w h h' => impl_JoinSystems t p w u1 u3 h h' m1 m3
  have hs2 := fun w h h' => impl_JoinSystems b q w u2 u4 h h' m2 m4
  unfold res_JoinSystems ok_JoinSystems at hs1 hs2
  clear hA hX hR B3 h1 h2 h3 h4
  cases e1 : pairOk t b with
  | false =>
    simp only [e1] at ht1
    have HT1 := Lib.hid ht1; clear ht1 ht2 hs1 hs2 e1
    simp only [Bool.false_and, Bool.false_eq_true, if_false]
    go_enter Try.func18, Try.ntmps18
    go_wp2_with fail
    refine (HT1.out _ H1.out H2.out).mono ?_
    rintro e w1 ⟨rfl, hb1⟩
    have HA1 := Lib.hid (HA.out.below hb1); have HX1 := Lib.hid (HX.out.below hb1); have HR1 := Lib.hid (HR.out.below hb1); have HB1 := Lib.hid (Below.step HB.out hb1); have H11 := Lib.hid (H1.out.below hb1); have H21 := Lib.hid (H2.out.below hb1); have H31 := Lib.hid (H3.out.below hb1); have H41 := Lib.hid (H4.out.below hb1)
    clear hb1 k0 k1
    have g0 := HR1.out.c0; have g1 := HR1.out.c1; have g2 := HR1.out.free 0; have g3 := HR1.out.free 1
    go_wp2
    exact bodyPost_ret (results_jmimpl _ _ (w.heap.size + 1 + 1) _ _ false ((HR1.out.set0 _).set1 _) rfl rfl) rfl ⟨_, _, rfl, Own.nil _ _, Own.nil _ _, ApartV.nil _, (HB1.out.setCell (p := ⟨w.heap.size + 1 + 1, 0, none⟩) (by show w.heap.size ≤ w.heap.size + 1 + 1; omega) _).setCell (p := ⟨w.heap.size + 1 + 1, 1, none⟩) (by show w.heap.size ≤ w.heap.size + 1 + 1; omega) _⟩
  | true =>
    cases e2 : pairOk p q with
    | false =>
      simp only [e1] at ht1
      simp only [e2] at ht2
      have HT1 := Lib.hid ht1; have HT2 := Lib.hid ht2; clear ht1 ht2 hs1 hs2 e1 e2
      simp only [Bool.and_false, Bool.false_and, Bool.false_eq_true, if_false]
      go_enter Try.func18, Try.ntmps18
      go_wp2_with fail
      refine (HT1.out _ H1.out H2.out).mono ?_
      rintro e w1 ⟨rfl, hb1⟩
      have HA1 := Lib.hid (HA.out.below hb1); have HX1 := Lib.hid (HX.out.below hb1); have HR1 := Lib.hid (HR.out.below hb1); have HB1 := Lib.hid (Below.step HB.out hb1); have H11 := Lib.hid (H1.out.below hb1); have H21 := Lib.hid (H2.out.below hb1); have H31 := Lib.hid (H3.out.below hb1); have H41 := Lib.hid (H4.out.below hb1)
      clear hb1 k0 k1
      have k2 := HX1.out.c0; have k3 := HX1.out.c1
      go_wp2_with fail
      refine (HT2.out _ H31.out H41.out).mono ?_
      rintro e w2 ⟨rfl, hb2⟩
      have HA2 := Lib.hid (HA1.out.below hb2); have HX2 := Lib.hid (HX1.out.below hb2); have HR2 := Lib.hid (HR1.out.below hb2); have HB2 := Lib.hid (Below.step HB1.out hb2); have H12 := Lib.hid (H11.out.below hb2); have H22 := Lib.hid (H21.out.below hb2); have H32 := Lib.hid (H31.out.below hb2); have H42 := Lib.hid (H41.out.below hb2)
      clear hb2 k2 k3
      have g0 := HR2.out.c0; have g1 := HR2.out.c1; have g2 := HR2.out.free 0; have g3 := HR2.out.free 1
      go_wp2
      exact bodyPost_ret (results_jmimpl _ _ (w.heap.size + 1 + 1) _ _ false ((HR2.out.set0 _).set1 _) rfl rfl) rfl ⟨_, _, rfl, Own.nil _ _, Own.nil _ _, ApartV.nil _, (HB2.out.setCell (p := ⟨w.heap.size + 1 + 1, 0, none⟩) (by show w.heap.size ≤ w.heap.size + 1 + 1; omega) _).setCell (p := ⟨w.heap.size + 1 + 1, 1, none⟩) (by show w.heap.size ≤ w.heap.size + 1 + 1; omega) _⟩
    | true =>
      obtain ⟨g1, g2, g3⟩ := pairOk_facts e1
      obtain ⟨g4, g5, g6⟩ := pairOk_facts e2
      simp only [e1] at ht1
      simp only [e2] at ht2
      simp only [Bool.true_and]
      rw [← g3, ← g6] at hs2
      simp only [g1, g4, Bool.true_and] at hs1
      simp only [g2, g5, Bool.true_and] at hs2
      have HT1 := Lib.hid ht1; have HT2 := Lib.hid ht2; clear ht1 ht2 e1 e2 g1 g2 g3 g4 g5 g6
      generalize decide (t.length + p.length ≤ 12) = D at hs1 hs2 ⊢
      cases D with
      | false =>
        simp only [Bool.false_eq_true, if_false] at hs1 hs2 ⊢
        have HS1 := Lib.hid hs1; have HS2 := Lib.hid hs2; clear hs1 hs2
        go_enter Try.func18, Try.ntmps18
        go_wp2_with fail
        refine (HT1.out _ H1.out H2.out).mono ?_
        rintro e w1 ⟨rfl, hb1⟩
        have HA1 := Lib.hid (HA.out.below hb1); have HX1 := Lib.hid (HX.out.below hb1); have HR1 := Lib.hid (HR.out.below hb1); have HB1 := Lib.hid (Below.step HB.out hb1); have H11 := Lib.hid (H1.out.below hb1); have H21 := Lib.hid (H2.out.below hb1); have H31 := Lib.hid (H3.out.below hb1); have H41 := Lib.hid (H4.out.below hb1)
        clear hb1 k0 k1
        have k2 := HX1.out.c0; have k3 := HX1.out.c1
        go_wp2_with fail
        refine (HT2.out _ H31.out H41.out).mono ?_
        rintro e w2 ⟨rfl, hb2⟩
        have HA2 := Lib.hid (HA1.out.below hb2); have HX2 := Lib.hid (HX1.out.below hb2); have HR2 := Lib.hid (HR1.out.below hb2); have HB2 := Lib.hid (Below.step HB1.out hb2); have H12 := Lib.hid (H11.out.below hb2); have H22 := Lib.hid (H21.out.below hb2); have H32 := Lib.hid (H31.out.below hb2); have H42 := Lib.hid (H41.out.below hb2)
        clear hb2 k2 k3
        have k4 := HA2.out.c0; have k5 := HX2.out.c0
        go_wp2_with fail
        refine (HS1.out _ H12.out H32.out).mono ?_
        rintro e w3 ⟨v1, rfl, ho1, hb3⟩
        obtain ⟨x1, y1, z1, rfl⟩ := ho1.form'
        have HO1 := Lib.hid ho1; have HA3 := Lib.hid (HA2.out.below hb3); have HX3 := Lib.hid (HX2.out.below hb3); have HR3 := Lib.hid (HR2.out.below hb3); have HB3 := Lib.hid (Below.step HB2.out hb3); have H23 := Lib.hid (H22.out.below hb3); have H43 := Lib.hid (H42.out.below hb3)
        clear hb3 k4 k5 ho1
        have k6 := HA3.out.c1; have k7 := HX3.out.c1
        go_wp2_with fail
        refine (HS2.out _ H23.out H43.out).mono ?_
        rintro e w4 ⟨v2, rfl, ho2, hb4⟩
        obtain ⟨x2, y2, z2, rfl⟩ := ho2.form'
        have HO2 := Lib.hid ho2; have HO12 := Lib.hid (HO1.out.below hb4); have HR4 := Lib.hid (HR3.out.below hb4); have HB4 := Lib.hid (Below.step HB3.out hb4)
        have AP := Lib.hid (show ApartV (.slice x1 y1 z1) (.slice x2 y2 z2) from fun k hk hk' => by have h5 := (HO1.out.lt k hk).2; have h6 := (HO2.out.lt k hk').1; omega)
        clear hb4 k6 k7 ho2
        have g0 := HR4.out.c0; have g1 := HR4.out.c1; have g2 := HR4.out.free 0; have g3 := HR4.out.free 1
        go_wp2
        exact bodyPost_ret (results_jmimpl _ _ (w.heap.size + 1 + 1) _ _ false ((HR4.out.set0 _).set1 _) rfl rfl) rfl ⟨_, _, rfl, Own.nil _ _, Own.nil _ _, ApartV.nil _, (HB4.out.setCell (p := ⟨w.heap.size + 1 + 1, 0, none⟩) (by show w.heap.size ≤ w.heap.size + 1 + 1; omega) _).setCell (p := ⟨w.heap.size + 1 + 1, 1, none⟩) (by show w.heap.size ≤ w.heap.size + 1 + 1; omega) _⟩
      | true =>
        simp only [if_true] at hs1 hs2 ⊢
        have HS1 := Lib.hid hs1; have HS2 := Lib.hid hs2; clear hs1 hs2
        go_enter Try.func18, Try.ntmps18
        go_wp2_with fail
        refine (HT1.out _ H1.out H2.out).mono ?_
        rintro e w1 ⟨rfl, hb1⟩
        have HA1 := Lib.hid (HA.out.below hb1); have HX1 := Lib.hid (HX.out.below hb1); have HR1 := Lib.hid (HR.out.below hb1); have HB1 := Lib.hid (Below.step HB.out hb1); have H11 := Lib.hid (H1.out.below hb1); have H21 := Lib.hid (H2.out.below hb1); have H31 := Lib.hid (H3.out.below hb1); have H41 := Lib.hid (H4.out.below hb1)
        clear hb1 k0 k1
        have k2 := HX1.out.c0; have k3 := HX1.out.c1
        go_wp2_with fail
        refine (HT2.out _ H31.out H41.out).mono ?_
        rintro e w2 ⟨rfl, hb2⟩
        have HA2 := Lib.hid (HA1.out.below hb2); have HX2 := Lib.hid (HX1.out.below hb2); have HR2 := Lib.hid (HR1.out.below hb2); have HB2 := Lib.hid (Below.step HB1.out hb2); have H12 := Lib.hid (H11.out.below hb2); have H22 := Lib.hid (H21.out.below hb2); have H32 := Lib.hid (H31.out.below hb2); have H42 := Lib.hid (H41.out.below hb2)
        clear hb2 k2 k3
        have k4 := HA2.out.c0; have k5 := HX2.out.c0
        go_wp2_with fail
        refine (HS1.out _ H12.out H32.out).mono ?_
        rintro e w3 ⟨v1, rfl, ho1, hb3⟩
        obtain ⟨x1, y1, z1, rfl⟩ := ho1.form'
        have HO1 := Lib.hid ho1; have HA3 := Lib.hid (HA2.out.below hb3); have HX3 := Lib.hid (HX2.out.below hb3); have HR3 := Lib.hid (HR2.out.below hb3); have HB3 := Lib.hid (Below.step HB2.out hb3); have H23 := Lib.hid (H22.out.below hb3); have H43 := Lib.hid (H42.out.below hb3)
        clear hb3 k4 k5 ho1
        have k6 := HA3.out.c1; have k7 := HX3.out.c1
        go_wp2_with fail
        refine (HS2.out _ H23.out H43.out).mono ?_
        rintro e w4 ⟨v2, rfl, ho2, hb4⟩
        obtain ⟨x2, y2, z2, rfl⟩ := ho2.form'
        have HO2 := Lib.hid ho2; have HO12 := Lib.hid (HO1.out.below hb4); have HR4 := Lib.hid (HR3.out.below hb4); have HB4 := Lib.hid (Below.step HB3.out hb4)
        have AP := Lib.hid (show ApartV (.slice x1 y1 z1) (.slice x2 y2 z2) from fun k hk hk' => by have h5 := (HO1.out.lt k hk).2; have h6 := (HO2.out.lt k hk').1; omega)
        clear hb4 k6 k7 ho2
        have g0 := HR4.out.c0; have g1 := HR4.out.c1; have g2 := HR4.out.free 0; have g3 := HR4.out.free 1
        go_wp2
        have hlt := HR2.out.lt; have hb2 := HB2.out.size; have hb3 := HB3.out.size
        have G2 : ∀ k, (Value.slice x1 y1 z1).ownBlock = some k → (some (w.heap.size + 1 + 1) : Option Nat) ≠ some k := fun k hk e => by have h5 := (HO12.out.lt k hk).1; simp at e; omega
        have hlt3 := HR3.out.lt
        have G3 : ∀ k, (Value.slice x2 y2 z2).ownBlock = some k → (some (w.heap.size + 1 + 1) : Option Nat) ≠ some k := fun k hk e => by have h5 := (HO2.out.lt k hk).1; simp at e; omega
        exact bodyPost_ret (results_jmimpl _ _ (w.heap.size + 1 + 1) _ _ true ((HR4.out.set0 _).set1 _) rfl rfl) rfl ⟨_, _, rfl, (HO12.out.grown (grown_trans grown_setCell grown_setCell) G2).mono hb2, (HO2.out.grown (grown_trans grown_setCell grown_setCell) G3).mono hb3, AP.out, (HB4.out.setCell (p := ⟨w.heap.size + 1 + 1, 0, none⟩) (by show w.heap.size ≤ w.heap.size + 1 + 1; omega) _).setCell (p := ⟨w.heap.size + 1 + 1, 1, none⟩) (by show w.heap.size ≤ w.heap.size + 1 + 1; omega) _⟩

end Go.Proofs.Ytbinpefogecgmab
