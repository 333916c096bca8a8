/- InsertPair: the program's function and the model's. -/
import Derived.Test.YtaeeopdiodaiaaaInsPut
import Derived.Test.YtaeeopdiodaiaaaCutIn
import Derived.Deep.RegionHeld3
namespace Go.Proofs.Ytaeeopdiodaiaaa
open Go.RowKit
set_option linter.unusedSimpArgs false
set_option linter.unusedVariables false

theorem ip_start (w : World) (u1 u2 u3 u4 : Value) : Box2 28 (((w.alloc (.cells #[u1, u2] 28)).alloc (.cells #[u3, u4] 28)).alloc (.cells #[.slice none 0 0, .slice none 0 0] 28)) w.heap.size u1 u2 ∧ Box2 28 (((w.alloc (.cells #[u1, u2] 28)).alloc (.cells #[u3, u4] 28)).alloc (.cells #[.slice none 0 0, .slice none 0 0] 28)) (w.heap.size + 1) u3 u4 ∧ Box2 28 (((w.alloc (.cells #[u1, u2] 28)).alloc (.cells #[u3, u4] 28)).alloc (.cells #[.slice none 0 0, .slice none 0 0] 28)) (w.heap.size + 1 + 1) (.slice none 0 0) (.slice none 0 0) ∧ Below w.heap.size w (((w.alloc (.cells #[u1, u2] 28)).alloc (.cells #[u3, u4] 28)).alloc (.cells #[.slice none 0 0, .slice none 0 0] 28)) := by
  have hA := Box2.below (Box2.below (Box2.new 28 w u1 u2) (Below.alloc1 _ (.cells #[u3, u4] 28))) (Below.alloc1 _ (.cells #[.slice none 0 0, .slice none 0 0] 28))
  have hX := Box2.below (Box2.new 28 (w.alloc (.cells #[u1, u2] 28)) u3 u4) (Below.alloc1 _ (.cells #[.slice none 0 0, .slice none 0 0] 28))
  have hR := Box2.new 28 ((w.alloc (.cells #[u1, u2] 28)).alloc (.cells #[u3, u4] 28)) (.slice none 0 0) (.slice none 0 0)
  rw [World.size_alloc] at hX
  rw [World.size_alloc, World.size_alloc] at hR
  exact ⟨hA, hX, hR, Below.step (Below.step (Below.alloc1 w (.cells #[u1, u2] 28)) (Below.alloc1 _ (.cells #[u3, u4] 28))) (Below.alloc1 _ (.cells #[.slice none 0 0, .slice none 0 0] 28))⟩
theorem apart2 {B : Nat} {w w' : World} {u v : Value} {k l : List Int} (h : Own B w u k) (h' : Own w.heap.size w' v l) : ApartV u v := fun i hi hi' => by
  have h5 := (h.lt i hi).2; have h6 := (h'.lt i hi').1; omega

structure SpS (w : World) (u1 u2 u3 u4 : Value) (W : World) : Prop where
  A : Box2 28 W w.heap.size u1 u2
  B : Box2 28 W (w.heap.size + 1) u3 u4
  R : ∃ r1 r2, Box2 28 W (w.heap.size + 1 + 1) r1 r2
  bel : Below w.heap.size w W
theorem SpS.below {w W W' : World} {u1 u2 u3 u4 : Value} (h : SpS w u1 u2 u3 u4 W) (hb : Below W.heap.size W W') : SpS w u1 u2 u3 u4 W' :=
  ⟨h.A.below hb, h.B.below hb, by obtain ⟨r1, r2, hr⟩ := h.R; exact ⟨r1, r2, hr.below hb⟩, Below.step h.bel hb⟩
theorem SpS.to {w W : World} {u1 u2 u3 u4 : Value} (h : SpS w u1 u2 u3 u4 W) : Hid (SpS w u1 u2 u3 u4 W) ∧ W.cell? ⟨w.heap.size, 0, none⟩ = some u1 ∧ W.cell? ⟨w.heap.size, 1, none⟩ = some u2 ∧ W.cell? ⟨w.heap.size + 1, 0, none⟩ = some u3 ∧ W.cell? ⟨w.heap.size + 1, 1, none⟩ = some u4 := ⟨h, h.A.c0, h.A.c1, h.B.c0, h.B.c1⟩
theorem sp_keep {w W W' : World} {u1 u2 u3 u4 : Value} (h : Hid (SpS w u1 u2 u3 u4 W) ∧ W.cell? ⟨w.heap.size, 0, none⟩ = some u1 ∧ W.cell? ⟨w.heap.size, 1, none⟩ = some u2 ∧ W.cell? ⟨w.heap.size + 1, 0, none⟩ = some u3 ∧ W.cell? ⟨w.heap.size + 1, 1, none⟩ = some u4) (hb : Below W.heap.size W W') :
    Hid (SpS w u1 u2 u3 u4 W') ∧ W'.cell? ⟨w.heap.size, 0, none⟩ = some u1 ∧ W'.cell? ⟨w.heap.size, 1, none⟩ = some u2 ∧ W'.cell? ⟨w.heap.size + 1, 0, none⟩ = some u3 ∧ W'.cell? ⟨w.heap.size + 1, 1, none⟩ = some u4 := (h.1.out.below hb).to
theorem sp_set {w W : World} {u1 u2 u3 u4 x y : Value} (h : Hid (SpS w u1 u2 u3 u4 W) ∧ W.cell? ⟨w.heap.size, 0, none⟩ = some u1 ∧ W.cell? ⟨w.heap.size, 1, none⟩ = some u2 ∧ W.cell? ⟨w.heap.size + 1, 0, none⟩ = some u3 ∧ W.cell? ⟨w.heap.size + 1, 1, none⟩ = some u4) :
    (fun W' => Hid (SpS w u1 u2 u3 u4 W') ∧ W'.cell? ⟨w.heap.size, 0, none⟩ = some u1 ∧ W'.cell? ⟨w.heap.size, 1, none⟩ = some u2 ∧ W'.cell? ⟨w.heap.size + 1, 0, none⟩ = some u3 ∧ W'.cell? ⟨w.heap.size + 1, 1, none⟩ = some u4) ((W.setCell ⟨(w.heap.size + 1 + 1), 0, none⟩ x).setCell ⟨(w.heap.size + 1 + 1), 1, none⟩ y) := by
  obtain ⟨r1, r2, hr⟩ := h.1.out.R
  refine SpS.to ⟨?_, ?_, ⟨_, _, (hr.set0 x).set1 y⟩, (h.1.out.bel.setCell (p := ⟨(w.heap.size + 1 + 1), 0, none⟩) (by show w.heap.size ≤ w.heap.size + 1 + 1; omega) _).setCell (p := ⟨(w.heap.size + 1 + 1), 1, none⟩) (by show w.heap.size ≤ w.heap.size + 1 + 1; omega) _⟩
  · exact (heap_setCell_other _ ⟨(w.heap.size + 1 + 1), 1, none⟩ _ _ (by simp; omega)).trans ((heap_setCell_other _ ⟨(w.heap.size + 1 + 1), 0, none⟩ _ _ (by simp; omega)).trans h.1.out.A)
  · exact (heap_setCell_other _ ⟨(w.heap.size + 1 + 1), 1, none⟩ _ _ (by simp)).trans ((heap_setCell_other _ ⟨(w.heap.size + 1 + 1), 0, none⟩ _ _ (by simp)).trans h.1.out.B)
theorem sp_mono {w W W' : World} {u1 u2 u3 u4 v : Value} {l : List Int} (h : Hid (SpS w u1 u2 u3 u4 W) ∧ W.cell? ⟨w.heap.size, 0, none⟩ = some u1 ∧ W.cell? ⟨w.heap.size, 1, none⟩ = some u2 ∧ W.cell? ⟨w.heap.size + 1, 0, none⟩ = some u3 ∧ W.cell? ⟨w.heap.size + 1, 1, none⟩ = some u4) (ho : Own W.heap.size W' v l) : Own (w.heap.size + 1 + 1 + 1) W' v l := by
  obtain ⟨r1, r2, hr⟩ := h.1.out.R
  exact ho.mono hr.lt
theorem results_sIP (tmps : Array Value) (w : World) (g : Nat) (v1 v2 : Value) (ok : Bool) (hg : Box2 28 w g v1 v2) (h6 : tmps.getD 6 undef = .pointer (some ⟨g, 0, none⟩)) (h7 : tmps.getD 7 undef = .bool ok) :
    (results Try.f27 tmps).run Try.prog w = .ok (.tuple #[.agg #[v1, v2], .bool ok]) w := by
  have h6' : tmps[6]?.getD undef = .pointer (some ⟨g, 0, none⟩) := by simpa using h6
  have h7' : tmps[7]?.getD undef = .bool ok := by simpa using h7
  have hr : Try.f27.results = #[.cell 6 28, .tmp 7] := by kernel_rfl
  have hl : (loadVar 28 ⟨g, 0, none⟩).run Try.prog w = .ok (.agg #[v1, v2]) w := run_loadVar_row w g _ _ #[v1, v2] _ _ hg Try.underlying28 rfl (by rw [mea_info]; rfl)
  simp [results, hr, h6', h7', asAddr, hl]
set_option maxHeartbeats 4000000 in
set_option maxRecDepth 100000 in
theorem spec_ip_no1 (t b p q : List Int) (x : Int) (w : World) (a1 a2 a3 a4 : Option Addr) (l1 l2 l3 l4 n1 n2 n3 n4 : Nat) (h1 : Rd w (.slice a1 l1 n1) t) (h2 : Rd w (.slice a2 l2 n2) b) (h3 : Rd w (.slice a3 l3 n3) p) (h4 : Rd w (.slice a4 l4 n4) q) (m1 : t.length ≤ 1048576) (m2 : b.length ≤ 1048576) (m3 : p.length ≤ 1048576) (m4 : q.length ≤ 1048576) (e1 : pairOk t b = false) :
    Calls Try.prog 27 #[.agg #[.slice a1 l1 n1, .slice a2 l2 n2], .int .i64 x, .agg #[.slice a3 l3 n3, .slice a4 l4 n4]] w (GivesM w [] [] false) := by
  obtain ⟨hA, hX, hR, B3⟩ := ip_start w (.slice a1 l1 n1) (.slice a2 l2 n2) (.slice a3 l3 n3) (.slice a4 l4 n4)
  have k0 := hA.c0; have k1 := hA.c1; have k2 := hX.c0; have k3 := hX.c1
  have HA := Lib.hid hA; have HX := Lib.hid hX; have HR := Lib.hid hR; have HB := Lib.hid B3
  have H1 := Lib.hid (h1.below B3); have H2 := Lib.hid (h2.below B3); have H3 := Lib.hid (h3.below B3); have H4 := Lib.hid (h4.below B3)
  have HT1 := Lib.hid (fun w h1 h2 => mePair_any t b w (.slice a1 l1 n1) (.slice a2 l2 n2) h1 h2 m1 m2)
  rw [e1] at HT1
  clear e1
  clear hA hX hR B3 h1 h2 h3 h4
  go_enter Try.func27, Try.ntmps27
  go_wp2_with fail
  refine (HT1.out _ H1.out H2.out).mono ?_
  rintro e w1 ⟨rfl, hb1⟩
  have HA1 := Lib.hid (HA.out.below hb1); have HX1 := Lib.hid (HX.out.below hb1); have HR1 := Lib.hid (HR.out.below hb1); have HB1 := Lib.hid (Below.step HB.out hb1); have H31 := Lib.hid (H3.out.below hb1); have H41 := Lib.hid (H4.out.below hb1)
  clear hb1 k0 k1 k2 k3
  have g0 := HR1.out.c0; have g1 := HR1.out.c1; have g2 := HR1.out.free 0; have g3 := HR1.out.free 1
  go_wp2_with fail
  exact bodyPost_ret (results_sIP _ _ (w.heap.size + 1 + 1) _ _ false ((HR1.out.set0 _).set1 _) rfl rfl) rfl ⟨_, _, rfl, Own.nil _ _, Own.nil _ _, ApartV.nil _, (HB1.out.setCell (p := ⟨(w.heap.size + 1 + 1), 0, none⟩) (by show w.heap.size ≤ w.heap.size + 1 + 1; omega) _).setCell (p := ⟨(w.heap.size + 1 + 1), 1, none⟩) (by show w.heap.size ≤ w.heap.size + 1 + 1; omega) _⟩
set_option maxHeartbeats 4000000 in
set_option maxRecDepth 100000 in
theorem spec_ip_no2 (t b p q : List Int) (x : Int) (w : World) (a1 a2 a3 a4 : Option Addr) (l1 l2 l3 l4 n1 n2 n3 n4 : Nat) (h1 : Rd w (.slice a1 l1 n1) t) (h2 : Rd w (.slice a2 l2 n2) b) (h3 : Rd w (.slice a3 l3 n3) p) (h4 : Rd w (.slice a4 l4 n4) q) (m1 : t.length ≤ 1048576) (m2 : b.length ≤ 1048576) (m3 : p.length ≤ 1048576) (m4 : q.length ≤ 1048576) (e1 : pairOk t b = true) (e2 : pairOk p q = false) :
    Calls Try.prog 27 #[.agg #[.slice a1 l1 n1, .slice a2 l2 n2], .int .i64 x, .agg #[.slice a3 l3 n3, .slice a4 l4 n4]] w (GivesM w [] [] false) := by
  obtain ⟨hA, hX, hR, B3⟩ := ip_start w (.slice a1 l1 n1) (.slice a2 l2 n2) (.slice a3 l3 n3) (.slice a4 l4 n4)
  have k0 := hA.c0; have k1 := hA.c1; have k2 := hX.c0; have k3 := hX.c1
  have HA := Lib.hid hA; have HX := Lib.hid hX; have HR := Lib.hid hR; have HB := Lib.hid B3
  have H1 := Lib.hid (h1.below B3); have H2 := Lib.hid (h2.below B3); have H3 := Lib.hid (h3.below B3); have H4 := Lib.hid (h4.below B3)
  have HT1 := Lib.hid (fun w h1 h2 => mePair_any t b w (.slice a1 l1 n1) (.slice a2 l2 n2) h1 h2 m1 m2)
  rw [e1] at HT1
  have HT2 := Lib.hid (fun w h1 h2 => mePair_any p q w (.slice a3 l3 n3) (.slice a4 l4 n4) h1 h2 m3 m4)
  rw [e2] at HT2
  clear e1 e2
  clear hA hX hR B3 h1 h2 h3 h4
  go_enter Try.func27, Try.ntmps27
  go_wp2_with fail
  refine (HT1.out _ H1.out H2.out).mono ?_
  rintro e w1 ⟨rfl, hb1⟩
  have HA1 := Lib.hid (HA.out.below hb1); have HX1 := Lib.hid (HX.out.below hb1); have HR1 := Lib.hid (HR.out.below hb1); have HB1 := Lib.hid (Below.step HB.out hb1); have H31 := Lib.hid (H3.out.below hb1); have H41 := Lib.hid (H4.out.below hb1)
  clear hb1 k0 k1 k2 k3
  have k2 := HX1.out.c0; have k3 := HX1.out.c1
  go_wp2_with fail
  refine (HT2.out _ H31.out H41.out).mono ?_
  rintro e w2 ⟨rfl, hb2⟩
  have HA2 := Lib.hid (HA1.out.below hb2); have HX2 := Lib.hid (HX1.out.below hb2); have HR2 := Lib.hid (HR1.out.below hb2); have HB2 := Lib.hid (Below.step HB1.out hb2)
  clear hb2 k2 k3
  have g0 := HR2.out.c0; have g1 := HR2.out.c1; have g2 := HR2.out.free 0; have g3 := HR2.out.free 1
  go_wp2_with fail
  exact bodyPost_ret (results_sIP _ _ (w.heap.size + 1 + 1) _ _ false ((HR2.out.set0 _).set1 _) rfl rfl) rfl ⟨_, _, rfl, Own.nil _ _, Own.nil _ _, ApartV.nil _, (HB2.out.setCell (p := ⟨(w.heap.size + 1 + 1), 0, none⟩) (by show w.heap.size ≤ w.heap.size + 1 + 1; omega) _).setCell (p := ⟨(w.heap.size + 1 + 1), 1, none⟩) (by show w.heap.size ≤ w.heap.size + 1 + 1; omega) _⟩
set_option maxHeartbeats 4000000 in
set_option maxRecDepth 100000 in
theorem spec_ip_no3 (t b p q : List Int) (x : Int) (w : World) (a1 a2 a3 a4 : Option Addr) (l1 l2 l3 l4 n1 n2 n3 n4 : Nat) (h1 : Rd w (.slice a1 l1 n1) t) (h2 : Rd w (.slice a2 l2 n2) b) (h3 : Rd w (.slice a3 l3 n3) p) (h4 : Rd w (.slice a4 l4 n4) q) (m1 : t.length ≤ 1048576) (m2 : b.length ≤ 1048576) (m3 : p.length ≤ 1048576) (m4 : q.length ≤ 1048576) (e1 : pairOk t b = true) (e2 : pairOk p q = true) (e3 : inB x 0 (t.length : Int) = false) :
    Calls Try.prog 27 #[.agg #[.slice a1 l1 n1, .slice a2 l2 n2], .int .i64 x, .agg #[.slice a3 l3 n3, .slice a4 l4 n4]] w (GivesM w [] [] false) := by
  obtain ⟨hA, hX, hR, B3⟩ := ip_start w (.slice a1 l1 n1) (.slice a2 l2 n2) (.slice a3 l3 n3) (.slice a4 l4 n4)
  have k0 := hA.c0; have k1 := hA.c1; have k2 := hX.c0; have k3 := hX.c1
  have HA := Lib.hid hA; have HX := Lib.hid hX; have HR := Lib.hid hR; have HB := Lib.hid B3
  have H1 := Lib.hid (h1.below B3); have H2 := Lib.hid (h2.below B3); have H3 := Lib.hid (h3.below B3); have H4 := Lib.hid (h4.below B3)
  have HT1 := Lib.hid (fun w h1 h2 => mePair_any t b w (.slice a1 l1 n1) (.slice a2 l2 n2) h1 h2 m1 m2)
  rw [e1] at HT1
  have HT2 := Lib.hid (fun w h1 h2 => mePair_any p q w (.slice a3 l3 n3) (.slice a4 l4 n4) h1 h2 m3 m4)
  rw [e2] at HT2
  have ln1 : t.length = l1 := by obtain ⟨_, _, hv, _⟩ := h1; simp at hv; exact hv.2.1.symm
  have ln3 : p.length = l3 := by obtain ⟨_, _, hv, _⟩ := h3; simp at hv; exact hv.2.1.symm
  rw [ln1] at e3
  have HIN := Lib.hid e3
  clear e1 e2 e3 ln1 ln3
  clear hA hX hR B3 h1 h2 h3 h4
  go_enter Try.func27, Try.ntmps27
  go_wp2_with fail
  refine (HT1.out _ H1.out H2.out).mono ?_
  rintro e w1 ⟨rfl, hb1⟩
  have HA1 := Lib.hid (HA.out.below hb1); have HX1 := Lib.hid (HX.out.below hb1); have HR1 := Lib.hid (HR.out.below hb1); have HB1 := Lib.hid (Below.step HB.out hb1); have H31 := Lib.hid (H3.out.below hb1); have H41 := Lib.hid (H4.out.below hb1)
  clear hb1 k0 k1 k2 k3
  have k2 := HX1.out.c0; have k3 := HX1.out.c1
  go_wp2_with fail
  refine (HT2.out _ H31.out H41.out).mono ?_
  rintro e w2 ⟨rfl, hb2⟩
  have HA2 := Lib.hid (HA1.out.below hb2); have HX2 := Lib.hid (HX1.out.below hb2); have HR2 := Lib.hid (HR1.out.below hb2); have HB2 := Lib.hid (Below.step HB1.out hb2)
  clear hb2 k2 k3
  have k0 := HA2.out.c0; have k1 := HA2.out.c1; have k2 := HX2.out.c0; have k3 := HX2.out.c1
  go_wp2_with fail
  refine (l1In_any _ _ _ _).mono ?_
  rintro e w3 ⟨rfl, rfl⟩
  rw [HIN.out]
  have g0 := HR2.out.c0; have g1 := HR2.out.c1; have g2 := HR2.out.free 0; have g3 := HR2.out.free 1
  go_wp2_with fail
  exact bodyPost_ret (results_sIP _ _ (w.heap.size + 1 + 1) _ _ false ((HR2.out.set0 _).set1 _) rfl rfl) rfl ⟨_, _, rfl, Own.nil _ _, Own.nil _ _, ApartV.nil _, (HB2.out.setCell (p := ⟨(w.heap.size + 1 + 1), 0, none⟩) (by show w.heap.size ≤ w.heap.size + 1 + 1; omega) _).setCell (p := ⟨(w.heap.size + 1 + 1), 1, none⟩) (by show w.heap.size ≤ w.heap.size + 1 + 1; omega) _⟩
set_option maxHeartbeats 4000000 in
set_option maxRecDepth 100000 in
theorem spec_ip_no4 (t b p q : List Int) (x : Int) (w : World) (a1 a2 a3 a4 : Option Addr) (l1 l2 l3 l4 n1 n2 n3 n4 : Nat) (h1 : Rd w (.slice a1 l1 n1) t) (h2 : Rd w (.slice a2 l2 n2) b) (h3 : Rd w (.slice a3 l3 n3) p) (h4 : Rd w (.slice a4 l4 n4) q) (m1 : t.length ≤ 1048576) (m2 : b.length ≤ 1048576) (m3 : p.length ≤ 1048576) (m4 : q.length ≤ 1048576) (e1 : pairOk t b = true) (e2 : pairOk p q = true) (e3 : inB x 0 (t.length : Int) = true) (e4 : 12 < t.length + p.length) :
    Calls Try.prog 27 #[.agg #[.slice a1 l1 n1, .slice a2 l2 n2], .int .i64 x, .agg #[.slice a3 l3 n3, .slice a4 l4 n4]] w (GivesM w [] [] false) := by
  obtain ⟨hA, hX, hR, B3⟩ := ip_start w (.slice a1 l1 n1) (.slice a2 l2 n2) (.slice a3 l3 n3) (.slice a4 l4 n4)
  have k0 := hA.c0; have k1 := hA.c1; have k2 := hX.c0; have k3 := hX.c1
  have HA := Lib.hid hA; have HX := Lib.hid hX; have HR := Lib.hid hR; have HB := Lib.hid B3
  have H1 := Lib.hid (h1.below B3); have H2 := Lib.hid (h2.below B3); have H3 := Lib.hid (h3.below B3); have H4 := Lib.hid (h4.below B3)
  have HT1 := Lib.hid (fun w h1 h2 => mePair_any t b w (.slice a1 l1 n1) (.slice a2 l2 n2) h1 h2 m1 m2)
  rw [e1] at HT1
  have HT2 := Lib.hid (fun w h1 h2 => mePair_any p q w (.slice a3 l3 n3) (.slice a4 l4 n4) h1 h2 m3 m4)
  rw [e2] at HT2
  have ln1 : t.length = l1 := by obtain ⟨_, _, hv, _⟩ := h1; simp at hv; exact hv.2.1.symm
  have ln3 : p.length = l3 := by obtain ⟨_, _, hv, _⟩ := h3; simp at hv; exact hv.2.1.symm
  rw [ln1] at e3 e4
  rw [ln3] at e4
  have HIN := Lib.hid e3
  have b1 : l1 ≤ 1048576 := by omega
  have b3 : l3 ≤ 1048576 := by omega
  have e5 : decide ((12 : Int) < (l1 : Int) + (l3 : Int)) = true := decide_eq_true (by omega)
  have e6 : decide (12 < l1 + l3) = true := decide_eq_true (by omega)
  clear e1 e2 e3 ln1 ln3
  clear hA hX hR B3 h1 h2 h3 h4
  go_enter Try.func27, Try.ntmps27
  go_wp2_with fail
  refine (HT1.out _ H1.out H2.out).mono ?_
  rintro e w1 ⟨rfl, hb1⟩
  have HA1 := Lib.hid (HA.out.below hb1); have HX1 := Lib.hid (HX.out.below hb1); have HR1 := Lib.hid (HR.out.below hb1); have HB1 := Lib.hid (Below.step HB.out hb1); have H31 := Lib.hid (H3.out.below hb1); have H41 := Lib.hid (H4.out.below hb1)
  clear hb1 k0 k1 k2 k3
  have k2 := HX1.out.c0; have k3 := HX1.out.c1
  go_wp2_with fail
  refine (HT2.out _ H31.out H41.out).mono ?_
  rintro e w2 ⟨rfl, hb2⟩
  have HA2 := Lib.hid (HA1.out.below hb2); have HX2 := Lib.hid (HX1.out.below hb2); have HR2 := Lib.hid (HR1.out.below hb2); have HB2 := Lib.hid (Below.step HB1.out hb2)
  clear hb2 k2 k3
  have k0 := HA2.out.c0; have k1 := HA2.out.c1; have k2 := HX2.out.c0; have k3 := HX2.out.c1
  go_wp2_with fail
  refine (l1In_any _ _ _ _).mono ?_
  rintro e w3 ⟨rfl, rfl⟩
  rw [HIN.out]
  have g0 := HR2.out.c0; have g1 := HR2.out.c1; have g2 := HR2.out.free 0; have g3 := HR2.out.free 1
  go_wp2_with fail
  exact bodyPost_ret (results_sIP _ _ (w.heap.size + 1 + 1) _ _ false ((HR2.out.set0 _).set1 _) rfl rfl) rfl ⟨_, _, rfl, Own.nil _ _, Own.nil _ _, ApartV.nil _, (HB2.out.setCell (p := ⟨(w.heap.size + 1 + 1), 0, none⟩) (by show w.heap.size ≤ w.heap.size + 1 + 1; omega) _).setCell (p := ⟨(w.heap.size + 1 + 1), 1, none⟩) (by show w.heap.size ≤ w.heap.size + 1 + 1; omega) _⟩
theorem sp_bel {w W : World} {u1 u2 u3 u4 : Value} (h : Hid (SpS w u1 u2 u3 u4 W) ∧ W.cell? ⟨w.heap.size, 0, none⟩ = some u1 ∧ W.cell? ⟨w.heap.size, 1, none⟩ = some u2 ∧ W.cell? ⟨w.heap.size + 1, 0, none⟩ = some u3 ∧ W.cell? ⟨w.heap.size + 1, 1, none⟩ = some u4) : Below w.heap.size w W := h.1.out.bel
set_option maxHeartbeats 8000000 in
set_option maxRecDepth 100000 in
theorem spec_ip_yes (t b p q : List Int) (x : Nat) (w : World) (a1 a2 a3 a4 : Option Addr) (l1 l2 l3 l4 n1 n2 n3 n4 : Nat) (h1 : Rd w (.slice a1 l1 n1) t) (h2 : Rd w (.slice a2 l2 n2) b) (h3 : Rd w (.slice a3 l3 n3) p) (h4 : Rd w (.slice a4 l4 n4) q) (m1 : t.length ≤ 1048576) (m2 : b.length ≤ 1048576) (m3 : p.length ≤ 1048576) (m4 : q.length ≤ 1048576) (e1 : pairOk t b = true) (e2 : pairOk p q = true) (e3 : x ≤ t.length) (e4 : t.length + p.length ≤ 12) :
    Calls Try.prog 27 #[.agg #[.slice a1 l1 n1, .slice a2 l2 n2], .int .i64 (x : Int), .agg #[.slice a3 l3 n3, .slice a4 l4 n4]] w (GivesM w (insL t x p) (insL b x q) true) := by
  obtain ⟨hA, hX, hR, B3⟩ := ip_start w (.slice a1 l1 n1) (.slice a2 l2 n2) (.slice a3 l3 n3) (.slice a4 l4 n4)
  have k0 := hA.c0; have k1 := hA.c1; have k2 := hX.c0; have k3 := hX.c1
  have HA := Lib.hid hA; have HX := Lib.hid hX; have HR := Lib.hid hR; have HB := Lib.hid B3
  have H1 := Lib.hid (h1.below B3); have H2 := Lib.hid (h2.below B3); have H3 := Lib.hid (h3.below B3); have H4 := Lib.hid (h4.below B3)
  have HT1 := Lib.hid (fun w h1 h2 => mePair_any t b w (.slice a1 l1 n1) (.slice a2 l2 n2) h1 h2 m1 m2)
  rw [e1] at HT1
  have HT2 := Lib.hid (fun w h1 h2 => mePair_any p q w (.slice a3 l3 n3) (.slice a4 l4 n4) h1 h2 m3 m4)
  rw [e2] at HT2
  have ln1 : t.length = l1 := by obtain ⟨_, _, hv, _⟩ := h1; simp at hv; exact hv.2.1.symm
  have ln3 : p.length = l3 := by obtain ⟨_, _, hv, _⟩ := h3; simp at hv; exact hv.2.1.symm
  have g1 := pairOk_good e1; have g2 := pairOk_good e2
  have hrg : ∀ l : List Int, goodB l = true → ∀ k, k < l.length → 0 ≤ l.getD k 0 ∧ l.getD k 0 < 12 := fun l h k hk => by have := (good_facts h).2.2.1 k hk; have := good_len' h; omega
  have HP1 := Lib.hid (fun w h1 h3 => siPut_any t p x e3 e4 (hrg t g1.1) (hrg p g2.1) w (.slice a1 l1 n1) (.slice a3 l3 n3) h1 h3)
  have HP2 := Lib.hid (fun w h2 h4 => siPut_any b q x (by rw [← g1.2.2]; exact e3) (by rw [← g1.2.2, ← g2.2.2]; exact e4) (hrg b g1.2.1) (hrg q g2.2.1) w (.slice a2 l2 n2) (.slice a4 l4 n4) h2 h4)
  have HIN := Lib.hid (inB_yes (by omega) (by omega) : inB (x : Int) 0 (t.length : Int) = true)
  rw [ln1] at e3 e4 HIN
  rw [ln3] at e4
  generalize insL t x p = L1 at *
  generalize insL b x q = L2 at *
  have e5 : decide ((12 : Int) < (l1 : Int) + (l3 : Int)) = false := decide_eq_false (by omega)
  have e6 : decide (12 < l1 + l3) = false := decide_eq_false (by omega)
  have h10 := Lib.hid h1; have h20 := Lib.hid h2; have h30 := Lib.hid h3; have h40 := Lib.hid h4
  clear e1 e2 e3 ln1 ln3 g1 g2 hrg
  clear hA hX hR B3 h1 h2 h3 h4
  go_enter Try.func27, Try.ntmps27
  go_wp2_with fail
  refine (HT1.out _ H1.out H2.out).mono ?_
  rintro e w1 ⟨rfl, hb1⟩
  have HA1 := Lib.hid (HA.out.below hb1); have HX1 := Lib.hid (HX.out.below hb1); have HR1 := Lib.hid (HR.out.below hb1); have HB1 := Lib.hid (Below.step HB.out hb1); have H31 := Lib.hid (H3.out.below hb1); have H41 := Lib.hid (H4.out.below hb1)
  clear hb1 k0 k1 k2 k3
  have k2 := HX1.out.c0; have k3 := HX1.out.c1
  go_wp2_with fail
  refine (HT2.out _ H31.out H41.out).mono ?_
  rintro e w2 ⟨rfl, hb2⟩
  have HA2 := Lib.hid (HA1.out.below hb2); have HX2 := Lib.hid (HX1.out.below hb2); have HR2 := Lib.hid (HR1.out.below hb2); have HB2 := Lib.hid (Below.step HB1.out hb2)
  clear hb2 k2 k3
  have hS0 : SpS w (.slice a1 l1 n1) (.slice a2 l2 n2) (.slice a3 l3 n3) (.slice a4 l4 n4) w2 := ⟨HA2.out, HX2.out, ⟨_, _, HR2.out⟩, HB2.out⟩
  have HS0 := Lib.hid hS0
  have k0 := HA2.out.c0; have k1 := HA2.out.c1; have k2 := HX2.out.c0; have k3 := HX2.out.c1
  clear hS0
  go_wp2_with fail
  refine (l1In_any _ _ _ _).mono ?_
  rintro e w3 ⟨rfl, rfl⟩
  rw [HIN.out]
  go_wp2_with fail
  clear k0 k1 k2 k3
  have hS := SpS.to (HS0.out.below (Below.refl w2.heap.size w2).drew)
  go_region_held3 (fun w' => Hid (SpS w (.slice a1 l1 n1) (.slice a2 l2 n2) (.slice a3 l3 n3) (.slice a4 l4 n4) w') ∧ w'.cell? ⟨w.heap.size, 0, none⟩ = some (.slice a1 l1 n1) ∧ w'.cell? ⟨w.heap.size, 1, none⟩ = some (.slice a2 l2 n2) ∧ w'.cell? ⟨w.heap.size + 1, 0, none⟩ = some (.slice a3 l3 n3) ∧ w'.cell? ⟨w.heap.size + 1, 1, none⟩ = some (.slice a4 l4 n4))
    (first | assumption | exact sp_keep (by assumption) (by assumption) | exact sp_set (by assumption))
    (first
      | (go_at_call_of 58 (Value.slice a1 l1 n1); ((refine (HP1.out _ (h10.out.below (sp_bel (by assumption))) (h30.out.below (sp_bel (by assumption)))).mono ?_); rintro e w5 ⟨v1, rfl, ho1, hb5⟩; obtain ⟨x1, y1, z1, rfl⟩ := ho1.form'; (try (have HAP := Lib.hid (apart2 HV2.out ho1))); (try (have HV2 := Lib.hid (HV2.out.below hb5))); have HV1 := Lib.hid (sp_mono (by assumption) ho1); obtain ⟨r1, r2, hRR⟩ := (sp_keep (by assumption) hb5).1.out.R; have q0 := hRR.c0; have q1 := hRR.c1; have q2 := hRR.free 0; have q3 := hRR.free 1; have HRB := Lib.hid hRR; have HBB := Lib.hid (sp_keep (by assumption) hb5).1.out.bel; clear ho1 hRR))
      | (go_at_call_of 58 (Value.slice a2 l2 n2); ((refine (HP2.out _ (h20.out.below (sp_bel (by assumption))) (h40.out.below (sp_bel (by assumption)))).mono ?_); rintro e w6 ⟨v2, rfl, ho2, hb6⟩; obtain ⟨x2, y2, z2, rfl⟩ := ho2.form'; (try (have HAP := Lib.hid (apart2 HV1.out ho2))); (try (have HV1 := Lib.hid (HV1.out.below hb6))); have HV2 := Lib.hid (sp_mono (by assumption) ho2); obtain ⟨r1, r2, hRR⟩ := (sp_keep (by assumption) hb6).1.out.R; have q0 := hRR.c0; have q1 := hRR.c1; have q2 := hRR.free 0; have q3 := hRR.free 1; have HRB := Lib.hid hRR; have HBB := Lib.hid (sp_keep (by assumption) hb6).1.out.bel; clear ho2 hRR)))
  all_goals
    go_wp2_with fail
    exact bodyPost_ret (results_sIP _ _ (w.heap.size + 1 + 1) _ _ true ((HRB.out.set0 _).set1 _) rfl rfl) rfl ⟨_, _, rfl, (HV1.out.set2 (by omega) _ _).mono (by omega), (HV2.out.set2 (by omega) _ _).mono (by omega), (fun k hk hk' => by first | exact HAP.out k hk hk' | exact HAP.out k hk' hk), (HBB.out.setCell (p := ⟨(w.heap.size + 1 + 1), 0, none⟩) (by show w.heap.size ≤ w.heap.size + 1 + 1; omega) _).setCell (p := ⟨(w.heap.size + 1 + 1), 1, none⟩) (by show w.heap.size ≤ w.heap.size + 1 + 1; omega) _⟩
theorem spec_InsertPair (t b : List Int) (x : Int) (p q : List Int) (w : World) (u1 u2 u3 u4 : Value) (h1 : Rd w u1 t) (h2 : Rd w u2 b) (h3 : Rd w u3 p) (h4 : Rd w u4 q) (m1 : t.length ≤ 1048576) (m2 : b.length ≤ 1048576) (m3 : p.length ≤ 1048576) (m4 : q.length ≤ 1048576) :
    Calls Try.prog 27 #[.agg #[u1, u2], .int .i64 x, .agg #[u3, u4]] w (GivesM w (res1_InsertPair t b x p q) (res2_InsertPair t b x p q) (ok_InsertPair t b x p q)) := by
  obtain ⟨a1, l1, n1, rfl⟩ : ∃ a n c, u1 = .slice a n c := by obtain ⟨a, c, e, -⟩ := h1; exact ⟨a, _, c, e⟩
  obtain ⟨a2, l2, n2, rfl⟩ : ∃ a n c, u2 = .slice a n c := by obtain ⟨a, c, e, -⟩ := h2; exact ⟨a, _, c, e⟩
  obtain ⟨a3, l3, n3, rfl⟩ : ∃ a n c, u3 = .slice a n c := by obtain ⟨a, c, e, -⟩ := h3; exact ⟨a, _, c, e⟩
  obtain ⟨a4, l4, n4, rfl⟩ : ∃ a n c, u4 = .slice a n c := by obtain ⟨a, c, e, -⟩ := h4; exact ⟨a, _, c, e⟩
  unfold res1_InsertPair res2_InsertPair
  cases e1 : pairOk t b with
  | false =>
    have e : ok_InsertPair t b x p q = false := by simp [ok_InsertPair, e1]
    rw [e]
    exact spec_ip_no1 t b p q x w a1 a2 a3 a4 l1 l2 l3 l4 n1 n2 n3 n4 h1 h2 h3 h4 m1 m2 m3 m4 e1
  | true =>
    cases e2 : pairOk p q with
    | false =>
      have e : ok_InsertPair t b x p q = false := by simp [ok_InsertPair, e2]
      rw [e]
      exact spec_ip_no2 t b p q x w a1 a2 a3 a4 l1 l2 l3 l4 n1 n2 n3 n4 h1 h2 h3 h4 m1 m2 m3 m4 e1 e2
    | true =>
      by_cases hx : 0 ≤ x ∧ x ≤ (t.length : Int)
      · by_cases hl : t.length + p.length ≤ 12
        · have e : ok_InsertPair t b x p q = true := by simp [ok_InsertPair, e1, e2, hx, hl]
          rw [e]
          obtain ⟨k, rfl⟩ := Int.eq_ofNat_of_zero_le hx.1
          exact spec_ip_yes t b p q k w a1 a2 a3 a4 l1 l2 l3 l4 n1 n2 n3 n4 h1 h2 h3 h4 m1 m2 m3 m4 e1 e2 (by omega) hl
        · have e : ok_InsertPair t b x p q = false := by simp only [ok_InsertPair, decide_eq_false hl, Bool.and_false]
          rw [e]
          exact spec_ip_no4 t b p q x w a1 a2 a3 a4 l1 l2 l3 l4 n1 n2 n3 n4 h1 h2 h3 h4 m1 m2 m3 m4 e1 e2 (inB_yes hx.1 hx.2) (by omega)
      · have e : ok_InsertPair t b x p q = false := by simp only [ok_InsertPair, decide_eq_false hx, Bool.and_false, Bool.false_and]
        rw [e]
        exact spec_ip_no3 t b p q x w a1 a2 a3 a4 l1 l2 l3 l4 n1 n2 n3 n4 h1 h2 h3 h4 m1 m2 m3 m4 e1 e2 (inB_no hx)

structure IpS (w : World) (g8 g10 : Nat) (t b p q : List Int) (W : World) : Prop where
  p8 : PairIn W g8 t b
  p10 : PairIn W g10 p q
  R : ∃ r1 r2, Box2 28 W (w.heap.size + 1 + 1) r1 r2
  bel : Below w.heap.size w W
  n8 : g8 ≠ (w.heap.size + 1 + 1)
  n10 : g10 ≠ (w.heap.size + 1 + 1)
  len : t.length ≤ 12 ∧ b.length ≤ 12 ∧ p.length ≤ 12 ∧ q.length ≤ 12
theorem IpS.below {w W : World} {g8 g10 : Nat} {t b p q : List Int} {W' : World} (h : IpS w g8 g10 t b p q W) (hb : Below W.heap.size W W') : IpS w g8 g10 t b p q W' :=
  ⟨h.p8.below hb, h.p10.below hb, by obtain ⟨r1, r2, hr⟩ := h.R; exact ⟨r1, r2, hr.below hb⟩, Below.step h.bel hb, h.n8, h.n10, h.len⟩
def loadQ5 (v : Value) : Sem Value := loadQ v
theorem lQ_eq (v : Value) : Instr.loadAt 56 v = loadQ v := rfl
theorem lS_eq (v : Value) : Instr.loadAt 54 v = loadS v := rfl
attribute [local go_sem ↓] lQ_eq lS_eq
theorem IpS.to3 {w W : World} {g8 g10 : Nat} {t b p q : List Int} {P8 P10 : Array Value} (e8 : pairC t b = P8) (e10 : pairC p q = P10) (h : IpS w g8 g10 t b p q W) : Hid (IpS w g8 g10 t b p q W) ∧ (loadQ (.pointer (some ⟨g8, 0, none⟩))).run Try.prog W = .ok (.agg P8) W ∧ (loadQ (.pointer (some ⟨g10, 0, none⟩))).run Try.prog W = .ok (.agg P10) W := by
  refine ⟨h, ?_, ?_⟩
  · rw [← e8]; exact run_loadAt_mid W g8 0 56 (pairC t b).toList _ (row_at h.p8) Try.underlying56 rfl (by rw [pair_info]; rfl)
  · rw [← e10]; exact run_loadAt_mid W g10 0 56 (pairC p q).toList _ (row_at h.p10) Try.underlying56 rfl (by rw [pair_info]; rfl)
theorem ip_keep3 {w W : World} {g8 g10 : Nat} {t b p q : List Int} {W' : World} {P8 P10 : Array Value} (e8 : pairC t b = P8) (e10 : pairC p q = P10) (h : Hid (IpS w g8 g10 t b p q W) ∧ (loadQ (.pointer (some ⟨g8, 0, none⟩))).run Try.prog W = .ok (.agg P8) W ∧ (loadQ (.pointer (some ⟨g10, 0, none⟩))).run Try.prog W = .ok (.agg P10) W) (hb : Below W.heap.size W W') : Hid (IpS w g8 g10 t b p q W') ∧ (loadQ (.pointer (some ⟨g8, 0, none⟩))).run Try.prog W' = .ok (.agg P8) W' ∧ (loadQ (.pointer (some ⟨g10, 0, none⟩))).run Try.prog W' = .ok (.agg P10) W' := (h.1.out.below hb).to3 e8 e10
theorem IpS.to5 {w W : World} {g8 g10 : Nat} {t b p q : List Int} (h : IpS w g8 g10 t b p q W) : Hid (IpS w g8 g10 t b p q W) ∧ (loadS (.pointer (some ⟨g8, 0, none⟩))).run Try.prog W = .ok (.agg (sysC t)) W ∧ (loadS (.pointer (some ⟨g8, 13, none⟩))).run Try.prog W = .ok (.agg (sysC b)) W ∧ (loadS (.pointer (some ⟨g10, 0, none⟩))).run Try.prog W = .ok (.agg (sysC p)) W ∧ (loadS (.pointer (some ⟨g10, 13, none⟩))).run Try.prog W = .ok (.agg (sysC q)) W :=
  ⟨h, run_loadS W g8 0 t h.len.1 (pair_top h.len.1 h.p8), run_loadS W g8 13 b h.len.2.1 (pair_bot h.len.2.1 h.p8), run_loadS W g10 0 p h.len.2.2.1 (pair_top h.len.2.2.1 h.p10), run_loadS W g10 13 q h.len.2.2.2 (pair_bot h.len.2.2.2 h.p10)⟩
theorem ip_keep5 {w W : World} {g8 g10 : Nat} {t b p q : List Int} {W' : World} (h : Hid (IpS w g8 g10 t b p q W) ∧ (loadS (.pointer (some ⟨g8, 0, none⟩))).run Try.prog W = .ok (.agg (sysC t)) W ∧ (loadS (.pointer (some ⟨g8, 13, none⟩))).run Try.prog W = .ok (.agg (sysC b)) W ∧ (loadS (.pointer (some ⟨g10, 0, none⟩))).run Try.prog W = .ok (.agg (sysC p)) W ∧ (loadS (.pointer (some ⟨g10, 13, none⟩))).run Try.prog W = .ok (.agg (sysC q)) W) (hb : Below W.heap.size W W') : Hid (IpS w g8 g10 t b p q W') ∧ (loadS (.pointer (some ⟨g8, 0, none⟩))).run Try.prog W' = .ok (.agg (sysC t)) W' ∧ (loadS (.pointer (some ⟨g8, 13, none⟩))).run Try.prog W' = .ok (.agg (sysC b)) W' ∧ (loadS (.pointer (some ⟨g10, 0, none⟩))).run Try.prog W' = .ok (.agg (sysC p)) W' ∧ (loadS (.pointer (some ⟨g10, 13, none⟩))).run Try.prog W' = .ok (.agg (sysC q)) W' := (h.1.out.below hb).to5
theorem IpS.set {w W : World} {g8 g10 : Nat} {t b p q : List Int} (h : IpS w g8 g10 t b p q W) (x y : Value) : IpS w g8 g10 t b p q ((W.setCell ⟨(w.heap.size + 1 + 1), 0, none⟩ x).setCell ⟨(w.heap.size + 1 + 1), 1, none⟩ y) := by
  obtain ⟨r1, r2, hr⟩ := h.R
  have n8 := h.n8; have n10 := h.n10
  refine ⟨?_, ?_, ⟨_, _, (hr.set0 x).set1 y⟩, (h.bel.setCell (p := ⟨(w.heap.size + 1 + 1), 0, none⟩) (by show w.heap.size ≤ w.heap.size + 1 + 1; omega) _).setCell (p := ⟨(w.heap.size + 1 + 1), 1, none⟩) (by show w.heap.size ≤ w.heap.size + 1 + 1; omega) _, n8, n10, h.len⟩
  · exact (heap_setCell_other _ ⟨(w.heap.size + 1 + 1), 1, none⟩ _ _ n8).trans ((heap_setCell_other _ ⟨(w.heap.size + 1 + 1), 0, none⟩ _ _ n8).trans h.p8)
  · exact (heap_setCell_other _ ⟨(w.heap.size + 1 + 1), 1, none⟩ _ _ n10).trans ((heap_setCell_other _ ⟨(w.heap.size + 1 + 1), 0, none⟩ _ _ n10).trans h.p10)
theorem ip_set5 {w W : World} {g8 g10 : Nat} {t b p q : List Int} {x y : Value} (h : Hid (IpS w g8 g10 t b p q W) ∧ (loadS (.pointer (some ⟨g8, 0, none⟩))).run Try.prog W = .ok (.agg (sysC t)) W ∧ (loadS (.pointer (some ⟨g8, 13, none⟩))).run Try.prog W = .ok (.agg (sysC b)) W ∧ (loadS (.pointer (some ⟨g10, 0, none⟩))).run Try.prog W = .ok (.agg (sysC p)) W ∧ (loadS (.pointer (some ⟨g10, 13, none⟩))).run Try.prog W = .ok (.agg (sysC q)) W) : (fun W => Hid (IpS w g8 g10 t b p q W) ∧ (loadS (.pointer (some ⟨g8, 0, none⟩))).run Try.prog W = .ok (.agg (sysC t)) W ∧ (loadS (.pointer (some ⟨g8, 13, none⟩))).run Try.prog W = .ok (.agg (sysC b)) W ∧ (loadS (.pointer (some ⟨g10, 0, none⟩))).run Try.prog W = .ok (.agg (sysC p)) W ∧ (loadS (.pointer (some ⟨g10, 13, none⟩))).run Try.prog W = .ok (.agg (sysC q)) W) ((W.setCell ⟨(w.heap.size + 1 + 1), 0, none⟩ x).setCell ⟨(w.heap.size + 1 + 1), 1, none⟩ y) := (h.1.out.set x y).to5
theorem ip_mono {w W : World} {g8 g10 : Nat} {t b p q : List Int} {W' : World} {v : Value} {l : List Int} (h : Hid (IpS w g8 g10 t b p q W) ∧ (loadS (.pointer (some ⟨g8, 0, none⟩))).run Try.prog W = .ok (.agg (sysC t)) W ∧ (loadS (.pointer (some ⟨g8, 13, none⟩))).run Try.prog W = .ok (.agg (sysC b)) W ∧ (loadS (.pointer (some ⟨g10, 0, none⟩))).run Try.prog W = .ok (.agg (sysC p)) W ∧ (loadS (.pointer (some ⟨g10, 13, none⟩))).run Try.prog W = .ok (.agg (sysC q)) W) (ho : Own W.heap.size W' v l) : Own (w.heap.size + 1 + 1 + 1) W' v l := by
  obtain ⟨r1, r2, hr⟩ := h.1.out.R
  exact ho.mono hr.lt
theorem results_iIP (tmps : Array Value) (w : World) (g : Nat) (v1 v2 : Value) (ok : Bool) (hg : Box2 28 w g v1 v2) (h6 : tmps.getD 6 undef = .pointer (some ⟨g, 0, none⟩)) (h7 : tmps.getD 7 undef = .bool ok) :
    (results Try.f28 tmps).run Try.prog w = .ok (.tuple #[.agg #[v1, v2], .bool ok]) w := by
  have h6' : tmps[6]?.getD undef = .pointer (some ⟨g, 0, none⟩) := by simpa using h6
  have h7' : tmps[7]?.getD undef = .bool ok := by simpa using h7
  have hr : Try.f28.results = #[.cell 6 28, .tmp 7] := by kernel_rfl
  have hl : (loadVar 28 ⟨g, 0, none⟩).run Try.prog w = .ok (.agg #[v1, v2]) w := run_loadVar_row w g _ _ #[v1, v2] _ _ hg Try.underlying28 rfl (by rw [mea_info]; rfl)
  simp [results, hr, h6', h7', asAddr, hl]
set_option maxHeartbeats 8000000 in
set_option maxRecDepth 100000 in
theorem impl_ip_no1 (t b p q : List Int) (o2 : Bool) (n m : Nat) (hlen : t.length ≤ 12 ∧ b.length ≤ 12 ∧ p.length ≤ 12 ∧ q.length ≤ 12) (hn : t.length = n) (hm : p.length = m) (x : Int) (w : World) (u1 u2 u3 u4 : Value) (s1 s2 s3 s4 : List Int) (h1 : Rd w u1 s1) (h2 : Rd w u2 s2) (h3 : Rd w u3 s3) (h4 : Rd w u4 s4)
    (hr1 : ∀ w, Rd w u1 s1 → Rd w u2 s2 → Calls Try.prog 44 #[.agg #[u1, u2]] w (PairOut w t b false)) (hr2 : ∀ w, Rd w u3 s3 → Rd w u4 s4 → Calls Try.prog 44 #[.agg #[u3, u4]] w (PairOut w p q o2))  :
    Calls Try.prog 28 #[.agg #[u1, u2], .int .i64 x, .agg #[u3, u4]] w (GivesM w [] [] false) := by
  obtain ⟨hA, hX, hR, B3⟩ := ip_start w u1 u2 u3 u4
  have k0 := hA.c0; have k1 := hA.c1; have k2 := hX.c0; have k3 := hX.c1
  have HX := Lib.hid hX; have HR := Lib.hid hR; have HB := Lib.hid B3
  have H1 := Lib.hid (h1.below B3); have H2 := Lib.hid (h2.below B3); have H3 := Lib.hid (h3.below B3); have H4 := Lib.hid (h4.below B3)
  have HR1 := Lib.hid hr1; have HR2 := Lib.hid hr2; have HLEN := Lib.hid hlen
  have HSZ8 := Lib.hid (fun w => pairSize_any t b w); have HSZ10 := Lib.hid (fun w => pairSize_any p q w)
  rw [hn] at HSZ8
  rw [hm] at HSZ10
  clear hA hX hR B3 h1 h2 h3 h4 hr1 hr2 hlen hn hm
  go_enter Try.func28, Try.ntmps28
  go_wp2_with fail
  refine (HR1.out _ H1.out H2.out).mono ?_
  rintro e w1 ⟨rfl, hb1⟩
  have HX1 := Lib.hid (HX.out.below hb1); have HRR1 := Lib.hid (HR.out.below hb1); have HB1 := Lib.hid (Below.step HB.out hb1); have H31 := Lib.hid (H3.out.below hb1); have H41 := Lib.hid (H4.out.below hb1)
  clear hb1 k0 k1 k2 k3
  go_wp2_with ((with_reducible refine wp_storePairN rfl (.tmp 8) (.tmp 15) rfl t b rfl rfl ?_); intro w2 hs2 hb2; have HP2 := Lib.hid hs2; have HX2 := Lib.hid (HX1.out.below hb2); have HRR2 := Lib.hid (HRR1.out.below hb2); have HB2 := Lib.hid (Below.step HB1.out hb2); have H32 := Lib.hid (H31.out.below hb2); have H42 := Lib.hid (H41.out.below hb2); have k2 := HX2.out.c0; have k3 := HX2.out.c1; clear hs2 hb2)
  refine (HR2.out _ H32.out H42.out).mono ?_
  rintro e w3 ⟨rfl, hb3⟩
  have HP3 := Lib.hid (HP2.out.below hb3); have HRR3 := Lib.hid (HRR2.out.below hb3); have HB3 := Lib.hid (Below.step HB2.out hb3)
  clear hb3 k2 k3
  go_wp2_with ((with_reducible refine wp_storePairN rfl (.tmp 10) (.tmp 20) rfl p q rfl rfl ?_); intro w4 hs4 hb4; have HQ4 := Lib.hid hs4; have HP4 := Lib.hid (HP3.out.below hb4); have HRR4 := Lib.hid (HRR3.out.below hb4); have HB4 := Lib.hid (Below.step HB3.out hb4); clear hs4 hb4)
  have q0 := HRR4.out.c0; have q1 := HRR4.out.c1; have q2 := HRR4.out.free 0; have q3 := HRR4.out.free 1
  clear HX1 HRR1 HB1 H31 H41 HP2 HX2 HRR2 HB2 H32 H42 HP3 HRR3 HB3 HQ4 HP4 HX HR HB H1 H2 H3 H4 HR1 HR2
  go_quiet (fail)
  go_wp2_with fail
  exact bodyPost_ret (results_iIP _ _ (w.heap.size + 1 + 1) _ _ false (((show Box2 28 (w4.drewN _) (w.heap.size + 1 + 1) _ _ from HRR4.out).set0 _).set1 _) rfl rfl) rfl ⟨_, _, rfl, Own.nil _ _, Own.nil _ _, ApartV.nil _, ((Below.drewN HB4.out _).setCell (p := ⟨(w.heap.size + 1 + 1), 0, none⟩) (by show w.heap.size ≤ w.heap.size + 1 + 1; omega) _).setCell (p := ⟨(w.heap.size + 1 + 1), 1, none⟩) (by show w.heap.size ≤ w.heap.size + 1 + 1; omega) _⟩
set_option maxHeartbeats 8000000 in
set_option maxRecDepth 100000 in
theorem impl_ip_no2 (t b p q : List Int) (n m : Nat) (hlen : t.length ≤ 12 ∧ b.length ≤ 12 ∧ p.length ≤ 12 ∧ q.length ≤ 12) (hn : t.length = n) (hm : p.length = m) (x : Int) (w : World) (u1 u2 u3 u4 : Value) (s1 s2 s3 s4 : List Int) (h1 : Rd w u1 s1) (h2 : Rd w u2 s2) (h3 : Rd w u3 s3) (h4 : Rd w u4 s4)
    (hr1 : ∀ w, Rd w u1 s1 → Rd w u2 s2 → Calls Try.prog 44 #[.agg #[u1, u2]] w (PairOut w t b true)) (hr2 : ∀ w, Rd w u3 s3 → Rd w u4 s4 → Calls Try.prog 44 #[.agg #[u3, u4]] w (PairOut w p q false))  :
    Calls Try.prog 28 #[.agg #[u1, u2], .int .i64 x, .agg #[u3, u4]] w (GivesM w [] [] false) := by
  obtain ⟨hA, hX, hR, B3⟩ := ip_start w u1 u2 u3 u4
  have k0 := hA.c0; have k1 := hA.c1; have k2 := hX.c0; have k3 := hX.c1
  have HX := Lib.hid hX; have HR := Lib.hid hR; have HB := Lib.hid B3
  have H1 := Lib.hid (h1.below B3); have H2 := Lib.hid (h2.below B3); have H3 := Lib.hid (h3.below B3); have H4 := Lib.hid (h4.below B3)
  have HR1 := Lib.hid hr1; have HR2 := Lib.hid hr2; have HLEN := Lib.hid hlen
  have HSZ8 := Lib.hid (fun w => pairSize_any t b w); have HSZ10 := Lib.hid (fun w => pairSize_any p q w)
  rw [hn] at HSZ8
  rw [hm] at HSZ10
  clear hA hX hR B3 h1 h2 h3 h4 hr1 hr2 hlen hn hm
  go_enter Try.func28, Try.ntmps28
  go_wp2_with fail
  refine (HR1.out _ H1.out H2.out).mono ?_
  rintro e w1 ⟨rfl, hb1⟩
  have HX1 := Lib.hid (HX.out.below hb1); have HRR1 := Lib.hid (HR.out.below hb1); have HB1 := Lib.hid (Below.step HB.out hb1); have H31 := Lib.hid (H3.out.below hb1); have H41 := Lib.hid (H4.out.below hb1)
  clear hb1 k0 k1 k2 k3
  go_wp2_with ((with_reducible refine wp_storePairN rfl (.tmp 8) (.tmp 15) rfl t b rfl rfl ?_); intro w2 hs2 hb2; have HP2 := Lib.hid hs2; have HX2 := Lib.hid (HX1.out.below hb2); have HRR2 := Lib.hid (HRR1.out.below hb2); have HB2 := Lib.hid (Below.step HB1.out hb2); have H32 := Lib.hid (H31.out.below hb2); have H42 := Lib.hid (H41.out.below hb2); have k2 := HX2.out.c0; have k3 := HX2.out.c1; clear hs2 hb2)
  refine (HR2.out _ H32.out H42.out).mono ?_
  rintro e w3 ⟨rfl, hb3⟩
  have HP3 := Lib.hid (HP2.out.below hb3); have HRR3 := Lib.hid (HRR2.out.below hb3); have HB3 := Lib.hid (Below.step HB2.out hb3)
  clear hb3 k2 k3
  go_wp2_with ((with_reducible refine wp_storePairN rfl (.tmp 10) (.tmp 20) rfl p q rfl rfl ?_); intro w4 hs4 hb4; have HQ4 := Lib.hid hs4; have HP4 := Lib.hid (HP3.out.below hb4); have HRR4 := Lib.hid (HRR3.out.below hb4); have HB4 := Lib.hid (Below.step HB3.out hb4); clear hs4 hb4)
  have q0 := HRR4.out.c0; have q1 := HRR4.out.c1; have q2 := HRR4.out.free 0; have q3 := HRR4.out.free 1
  clear HX1 HRR1 HB1 H31 H41 HP2 HX2 HRR2 HB2 H32 H42 HP3 HRR3 HB3 HQ4 HP4 HX HR HB H1 H2 H3 H4 HR1 HR2
  go_quiet (fail)
  go_wp2_with fail
  exact bodyPost_ret (results_iIP _ _ (w.heap.size + 1 + 1) _ _ false (((show Box2 28 (w4.drewN _) (w.heap.size + 1 + 1) _ _ from HRR4.out).set0 _).set1 _) rfl rfl) rfl ⟨_, _, rfl, Own.nil _ _, Own.nil _ _, ApartV.nil _, ((Below.drewN HB4.out _).setCell (p := ⟨(w.heap.size + 1 + 1), 0, none⟩) (by show w.heap.size ≤ w.heap.size + 1 + 1; omega) _).setCell (p := ⟨(w.heap.size + 1 + 1), 1, none⟩) (by show w.heap.size ≤ w.heap.size + 1 + 1; omega) _⟩
set_option maxHeartbeats 8000000 in
set_option maxRecDepth 100000 in
theorem impl_ip_no3 (t b p q : List Int) (n m : Nat) (hlen : t.length ≤ 12 ∧ b.length ≤ 12 ∧ p.length ≤ 12 ∧ q.length ≤ 12) (hn : t.length = n) (hm : p.length = m) (x : Int) (w : World) (u1 u2 u3 u4 : Value) (s1 s2 s3 s4 : List Int) (h1 : Rd w u1 s1) (h2 : Rd w u2 s2) (h3 : Rd w u3 s3) (h4 : Rd w u4 s4)
    (hr1 : ∀ w, Rd w u1 s1 → Rd w u2 s2 → Calls Try.prog 44 #[.agg #[u1, u2]] w (PairOut w t b true)) (hr2 : ∀ w, Rd w u3 s3 → Rd w u4 s4 → Calls Try.prog 44 #[.agg #[u3, u4]] w (PairOut w p q true)) (hx : x < 0) :
    Calls Try.prog 28 #[.agg #[u1, u2], .int .i64 x, .agg #[u3, u4]] w (GivesM w [] [] false) := by
  obtain ⟨hA, hX, hR, B3⟩ := ip_start w u1 u2 u3 u4
  have k0 := hA.c0; have k1 := hA.c1; have k2 := hX.c0; have k3 := hX.c1
  have HX := Lib.hid hX; have HR := Lib.hid hR; have HB := Lib.hid B3
  have H1 := Lib.hid (h1.below B3); have H2 := Lib.hid (h2.below B3); have H3 := Lib.hid (h3.below B3); have H4 := Lib.hid (h4.below B3)
  have HR1 := Lib.hid hr1; have HR2 := Lib.hid hr2; have HLEN := Lib.hid hlen
  have HSZ8 := Lib.hid (fun w => pairSize_any t b w); have HSZ10 := Lib.hid (fun w => pairSize_any p q w)
  rw [hn] at HSZ8
  rw [hm] at HSZ10
  have hd : decide (x < 0) = true := decide_eq_true hx
  clear hx
  clear hA hX hR B3 h1 h2 h3 h4 hr1 hr2 hlen hn hm
  go_enter Try.func28, Try.ntmps28
  go_wp2_with fail
  refine (HR1.out _ H1.out H2.out).mono ?_
  rintro e w1 ⟨rfl, hb1⟩
  have HX1 := Lib.hid (HX.out.below hb1); have HRR1 := Lib.hid (HR.out.below hb1); have HB1 := Lib.hid (Below.step HB.out hb1); have H31 := Lib.hid (H3.out.below hb1); have H41 := Lib.hid (H4.out.below hb1)
  clear hb1 k0 k1 k2 k3
  go_wp2_with ((with_reducible refine wp_storePairN rfl (.tmp 8) (.tmp 15) rfl t b rfl rfl ?_); intro w2 hs2 hb2; have HP2 := Lib.hid hs2; have HX2 := Lib.hid (HX1.out.below hb2); have HRR2 := Lib.hid (HRR1.out.below hb2); have HB2 := Lib.hid (Below.step HB1.out hb2); have H32 := Lib.hid (H31.out.below hb2); have H42 := Lib.hid (H41.out.below hb2); have k2 := HX2.out.c0; have k3 := HX2.out.c1; clear hs2 hb2)
  refine (HR2.out _ H32.out H42.out).mono ?_
  rintro e w3 ⟨rfl, hb3⟩
  have HP3 := Lib.hid (HP2.out.below hb3); have HRR3 := Lib.hid (HRR2.out.below hb3); have HB3 := Lib.hid (Below.step HB2.out hb3)
  clear hb3 k2 k3
  go_wp2_with ((with_reducible refine wp_storePairN rfl (.tmp 10) (.tmp 20) rfl p q rfl rfl ?_); intro w4 hs4 hb4; have HQ4 := Lib.hid hs4; have HP4 := Lib.hid (HP3.out.below hb4); have HRR4 := Lib.hid (HRR3.out.below hb4); have HB4 := Lib.hid (Below.step HB3.out hb4); clear hs4 hb4)
  have q0 := HRR4.out.c0; have q1 := HRR4.out.c1; have q2 := HRR4.out.free 0; have q3 := HRR4.out.free 1
  clear HX1 HRR1 HB1 H31 H41 HP2 HX2 HRR2 HB2 H32 H42 HP3 HRR3 HB3 HQ4 HP4 HX HR HB H1 H2 H3 H4 HR1 HR2
  go_quiet (fail)
  go_wp2_with fail
  exact bodyPost_ret (results_iIP _ _ (w.heap.size + 1 + 1) _ _ false (((show Box2 28 (w4.drewN _) (w.heap.size + 1 + 1) _ _ from HRR4.out).set0 _).set1 _) rfl rfl) rfl ⟨_, _, rfl, Own.nil _ _, Own.nil _ _, ApartV.nil _, ((Below.drewN HB4.out _).setCell (p := ⟨(w.heap.size + 1 + 1), 0, none⟩) (by show w.heap.size ≤ w.heap.size + 1 + 1; omega) _).setCell (p := ⟨(w.heap.size + 1 + 1), 1, none⟩) (by show w.heap.size ≤ w.heap.size + 1 + 1; omega) _⟩
set_option maxHeartbeats 8000000 in
set_option maxRecDepth 100000 in
theorem impl_ip_no5 (t b p q : List Int) (n m : Nat) (hlen : t.length ≤ 12 ∧ b.length ≤ 12 ∧ p.length ≤ 12 ∧ q.length ≤ 12) (hn : t.length = n) (hm : p.length = m) (x : Nat) (w : World) (u1 u2 u3 u4 : Value) (s1 s2 s3 s4 : List Int) (h1 : Rd w u1 s1) (h2 : Rd w u2 s2) (h3 : Rd w u3 s3) (h4 : Rd w u4 s4)
    (hr1 : ∀ w, Rd w u1 s1 → Rd w u2 s2 → Calls Try.prog 44 #[.agg #[u1, u2]] w (PairOut w t b true)) (hr2 : ∀ w, Rd w u3 s3 → Rd w u4 s4 → Calls Try.prog 44 #[.agg #[u3, u4]] w (PairOut w p q true)) (hx : x ≤ n) (hl : 12 < n + m) :
    Calls Try.prog 28 #[.agg #[u1, u2], .int .i64 (x : Int), .agg #[u3, u4]] w (GivesM w [] [] false) := by
  obtain ⟨hA, hX, hR, B3⟩ := ip_start w u1 u2 u3 u4
  have k0 := hA.c0; have k1 := hA.c1; have k2 := hX.c0; have k3 := hX.c1
  have HX := Lib.hid hX; have HR := Lib.hid hR; have HB := Lib.hid B3
  have H1 := Lib.hid (h1.below B3); have H2 := Lib.hid (h2.below B3); have H3 := Lib.hid (h3.below B3); have H4 := Lib.hid (h4.below B3)
  have HR1 := Lib.hid hr1; have HR2 := Lib.hid hr2; have HLEN := Lib.hid hlen
  have HSZ8 := Lib.hid (fun w => pairSize_any t b w); have HSZ10 := Lib.hid (fun w => pairSize_any p q w)
  rw [hn] at HSZ8
  rw [hm] at HSZ10
  have hw : IntKind.i64.wrap ((n : Int) + (m : Int)) = (n : Int) + (m : Int) := by
    have := hlen.1; have := hlen.2.2.1
    exact IntWalk.i64_in _ (by omega)
  have hd0 : decide ((x : Int) < 0) = false := decide_eq_false (by omega)
  have hd3 : ¬ ((x : Int) < 0) := by omega
  have hd1 : decide ((n : Int) < (x : Int)) = false := decide_eq_false (by omega)
  have hd2 : decide (n < x) = false := decide_eq_false (by omega)
  have hd5 : ¬ ((n : Int) < (x : Int)) := by omega
  have hd6 : decide ((12 : Int) < (n : Int) + (m : Int)) = true := decide_eq_true (by omega)
  have hd7 : decide (12 < n + m) = true := decide_eq_true hl
  clear hA hX hR B3 h1 h2 h3 h4 hr1 hr2 hlen hn hm
  go_enter Try.func28, Try.ntmps28
  go_wp2_with fail
  refine (HR1.out _ H1.out H2.out).mono ?_
  rintro e w1 ⟨rfl, hb1⟩
  have HX1 := Lib.hid (HX.out.below hb1); have HRR1 := Lib.hid (HR.out.below hb1); have HB1 := Lib.hid (Below.step HB.out hb1); have H31 := Lib.hid (H3.out.below hb1); have H41 := Lib.hid (H4.out.below hb1)
  clear hb1 k0 k1 k2 k3
  go_wp2_with ((with_reducible refine wp_storePairN rfl (.tmp 8) (.tmp 15) rfl t b rfl rfl ?_); intro w2 hs2 hb2; have HP2 := Lib.hid hs2; have HX2 := Lib.hid (HX1.out.below hb2); have HRR2 := Lib.hid (HRR1.out.below hb2); have HB2 := Lib.hid (Below.step HB1.out hb2); have H32 := Lib.hid (H31.out.below hb2); have H42 := Lib.hid (H41.out.below hb2); have k2 := HX2.out.c0; have k3 := HX2.out.c1; clear hs2 hb2)
  refine (HR2.out _ H32.out H42.out).mono ?_
  rintro e w3 ⟨rfl, hb3⟩
  have HP3 := Lib.hid (HP2.out.below hb3); have HRR3 := Lib.hid (HRR2.out.below hb3); have HB3 := Lib.hid (Below.step HB2.out hb3)
  clear hb3 k2 k3
  go_wp2_with ((with_reducible refine wp_storePairN rfl (.tmp 10) (.tmp 20) rfl p q rfl rfl ?_); intro w4 hs4 hb4; have HQ4 := Lib.hid hs4; have HP4 := Lib.hid (HP3.out.below hb4); have HRR4 := Lib.hid (HRR3.out.below hb4); have HB4 := Lib.hid (Below.step HB3.out hb4); clear hs4 hb4)
  have hS4 : IpS w w1.heap.size w3.heap.size t b p q w4 := ⟨HP4.out, HQ4.out, ⟨_, _, HRR4.out⟩, HB4.out, by have := HRR1.out.lt; omega, by have := HRR3.out.lt; omega, HLEN.out⟩
  obtain ⟨P8, hP8⟩ : ∃ P, pairC t b = P := ⟨_, rfl⟩
  obtain ⟨P10, hP10⟩ : ∃ P, pairC p q = P := ⟨_, rfl⟩
  have HE8 := Lib.hid hP8; have HE10 := Lib.hid hP10
  rw [hP8] at HSZ8
  rw [hP10] at HSZ10
  have hS := IpS.to3 hP8 hP10 (hS4.below (Below.refl w4.heap.size w4).drew)
  have HSF := Lib.hid (hS4.below (Below.refl w4.heap.size w4).drew)
  obtain ⟨r1, r2, hRR⟩ := HSF.out.R
  have q0 := hRR.c0; have q1 := hRR.c1; have q2 := hRR.free 0; have q3 := hRR.free 1
  have HRB := Lib.hid hRR; have HBB := Lib.hid HSF.out.bel
  generalize hg8 : w1.heap.size = g8 at *
  generalize hg10 : w3.heap.size = g10 at *
  clear hS4 hRR hP8 hP10 HX1 HRR1 HB1 H31 H41 HP2 HX2 HRR2 HB2 H32 H42 HP3 HRR3 HB3 HQ4 HP4 HRR4 HB4 HX HR HB H1 H2 H3 H4 HR1 HR2 hg8 hg10
  go_region_held3 (fun w' => Hid (IpS w g8 g10 t b p q w') ∧ (loadQ (.pointer (some ⟨g8, 0, none⟩))).run Try.prog w' = .ok (.agg P8) w' ∧ (loadQ (.pointer (some ⟨g10, 0, none⟩))).run Try.prog w' = .ok (.agg P10) w')
    (first | assumption | exact ip_keep3 HE8.out HE10.out (by assumption) (by assumption))
    (first
      | (go_at_call_of 48 (Value.agg P8); ((refine (HSZ8.out _).mono ?_); rintro e w5 ⟨rfl, hb5⟩; have HSF := Lib.hid (ip_keep3 HE8.out HE10.out (by assumption) hb5).1.out; obtain ⟨r1, r2, hRR⟩ := HSF.out.R; have q0 := hRR.c0; have q1 := hRR.c1; have q2 := hRR.free 0; have q3 := hRR.free 1; have HRB := Lib.hid hRR; have HBB := Lib.hid HSF.out.bel; clear hRR))
      | (go_at_call_of 48 (Value.agg P10); ((refine (HSZ10.out _).mono ?_); rintro e w5 ⟨rfl, hb5⟩; have HSF := Lib.hid (ip_keep3 HE8.out HE10.out (by assumption) hb5).1.out; obtain ⟨r1, r2, hRR⟩ := HSF.out.R; have q0 := hRR.c0; have q1 := hRR.c1; have q2 := hRR.free 0; have q3 := hRR.free 1; have HRB := Lib.hid hRR; have HBB := Lib.hid HSF.out.bel; clear hRR)))
  all_goals
    go_wp2_with fail
    exact bodyPost_ret (results_iIP _ _ (w.heap.size + 1 + 1) _ _ false ((HRB.out.set0 _).set1 _) rfl rfl) rfl ⟨_, _, rfl, Own.nil _ _, Own.nil _ _, ApartV.nil _, (HBB.out.setCell (p := ⟨(w.heap.size + 1 + 1), 0, none⟩) (by show w.heap.size ≤ w.heap.size + 1 + 1; omega) _).setCell (p := ⟨(w.heap.size + 1 + 1), 1, none⟩) (by show w.heap.size ≤ w.heap.size + 1 + 1; omega) _⟩
set_option maxHeartbeats 8000000 in
set_option maxRecDepth 100000 in
theorem impl_ip_yes (t b p q : List Int) (n m : Nat) (hlen : t.length ≤ 12 ∧ b.length ≤ 12 ∧ p.length ≤ 12 ∧ q.length ≤ 12) (hn : t.length = n) (hm : p.length = m) (x : Nat) (w : World) (u1 u2 u3 u4 : Value) (s1 s2 s3 s4 : List Int) (h1 : Rd w u1 s1) (h2 : Rd w u2 s2) (h3 : Rd w u3 s3) (h4 : Rd w u4 s4)
    (hr1 : ∀ w, Rd w u1 s1 → Rd w u2 s2 → Calls Try.prog 44 #[.agg #[u1, u2]] w (PairOut w t b true)) (hr2 : ∀ w, Rd w u3 s3 → Rd w u4 s4 → Calls Try.prog 44 #[.agg #[u3, u4]] w (PairOut w p q true)) (gt : goodB t = true) (gb : goodB b = true) (gp : goodB p = true) (gq : goodB q = true) (hbt : b.length = n) (hqp : q.length = m) (hx : x ≤ n) (hl : n + m ≤ 12) :
    Calls Try.prog 28 #[.agg #[u1, u2], .int .i64 (x : Int), .agg #[u3, u4]] w (GivesM w (insL t x p) (insL b x q) true) := by
  obtain ⟨hA, hX, hR, B3⟩ := ip_start w u1 u2 u3 u4
  have k0 := hA.c0; have k1 := hA.c1; have k2 := hX.c0; have k3 := hX.c1
  have HX := Lib.hid hX; have HR := Lib.hid hR; have HB := Lib.hid B3
  have H1 := Lib.hid (h1.below B3); have H2 := Lib.hid (h2.below B3); have H3 := Lib.hid (h3.below B3); have H4 := Lib.hid (h4.below B3)
  have HR1 := Lib.hid hr1; have HR2 := Lib.hid hr2; have HLEN := Lib.hid hlen
  have HSZ8 := Lib.hid (fun w => pairSize_any t b w); have HSZ10 := Lib.hid (fun w => pairSize_any p q w)
  rw [hn] at HSZ8
  rw [hm] at HSZ10
  have hw : IntKind.i64.wrap ((n : Int) + (m : Int)) = (n : Int) + (m : Int) := by
    have := hlen.1; have := hlen.2.2.1
    exact IntWalk.i64_in _ (by omega)
  have hd0 : decide ((x : Int) < 0) = false := decide_eq_false (by omega)
  have hd3 : ¬ ((x : Int) < 0) := by omega
  have hd1 : decide ((n : Int) < (x : Int)) = false := decide_eq_false (by omega)
  have hd2 : decide (n < x) = false := decide_eq_false (by omega)
  have hd5 : ¬ ((n : Int) < (x : Int)) := by omega
  have hd6 : decide ((12 : Int) < (n : Int) + (m : Int)) = false := decide_eq_false (by omega)
  have hd7 : decide (12 < n + m) = false := decide_eq_false (by omega)
  have hd8 : ¬ ((12 : Int) < (n : Int) + (m : Int)) := by omega
  have HW1 := Lib.hid (fun w => with_any t p x gt gp (by omega) (by omega) w)
  have HW2 := Lib.hid (fun w => with_any b q x gb gq (by omega) (by omega) w)
  have y1 := insL_length (p := t) (i := x) p (by omega); have y2 := insL_length (p := b) (i := x) q (by omega)
  generalize insL t x p = L1 at *
  generalize insL b x q = L2 at *
  have z1 : L1.length ≤ 12 := by omega
  have z2 : L2.length ≤ 12 := by omega
  have ET1 := Lib.hid (sysC_lit z1); have ET2 := Lib.hid (sysC_lit z2)
  have HPM : Hid (∀ w, Calls Try.prog 54 #[.agg #[sysV L1 0, sysV L1 1, sysV L1 2, sysV L1 3, sysV L1 4, sysV L1 5, sysV L1 6, sysV L1 7, sysV L1 8, sysV L1 9, sysV L1 10, sysV L1 11, sysV L1 12, sysV L2 0, sysV L2 1, sysV L2 2, sysV L2 3, sysV L2 4, sysV L2 5, sysV L2 6, sysV L2 7, sysV L2 8, sysV L2 9, sysV L2 10, sysV L2 11, sysV L2 12]] w (MadeM w L1 L2)) := fun w => pairMeander_any L1 L2 w z1 z2
  clear y1 y2 z1 z2 gt gb gp gq hbt hqp hl
  clear hA hX hR B3 h1 h2 h3 h4 hr1 hr2 hlen hn hm
  go_enter Try.func28, Try.ntmps28
  go_wp2_with fail
  refine (HR1.out _ H1.out H2.out).mono ?_
  rintro e w1 ⟨rfl, hb1⟩
  have HX1 := Lib.hid (HX.out.below hb1); have HRR1 := Lib.hid (HR.out.below hb1); have HB1 := Lib.hid (Below.step HB.out hb1); have H31 := Lib.hid (H3.out.below hb1); have H41 := Lib.hid (H4.out.below hb1)
  clear hb1 k0 k1 k2 k3
  go_wp2_with ((with_reducible refine wp_storePairN rfl (.tmp 8) (.tmp 15) rfl t b rfl rfl ?_); intro w2 hs2 hb2; have HP2 := Lib.hid hs2; have HX2 := Lib.hid (HX1.out.below hb2); have HRR2 := Lib.hid (HRR1.out.below hb2); have HB2 := Lib.hid (Below.step HB1.out hb2); have H32 := Lib.hid (H31.out.below hb2); have H42 := Lib.hid (H41.out.below hb2); have k2 := HX2.out.c0; have k3 := HX2.out.c1; clear hs2 hb2)
  refine (HR2.out _ H32.out H42.out).mono ?_
  rintro e w3 ⟨rfl, hb3⟩
  have HP3 := Lib.hid (HP2.out.below hb3); have HRR3 := Lib.hid (HRR2.out.below hb3); have HB3 := Lib.hid (Below.step HB2.out hb3)
  clear hb3 k2 k3
  go_wp2_with ((with_reducible refine wp_storePairN rfl (.tmp 10) (.tmp 20) rfl p q rfl rfl ?_); intro w4 hs4 hb4; have HQ4 := Lib.hid hs4; have HP4 := Lib.hid (HP3.out.below hb4); have HRR4 := Lib.hid (HRR3.out.below hb4); have HB4 := Lib.hid (Below.step HB3.out hb4); clear hs4 hb4)
  have hS4 : IpS w w1.heap.size w3.heap.size t b p q w4 := ⟨HP4.out, HQ4.out, ⟨_, _, HRR4.out⟩, HB4.out, by have := HRR1.out.lt; omega, by have := HRR3.out.lt; omega, HLEN.out⟩
  obtain ⟨P8, hP8⟩ : ∃ P, pairC t b = P := ⟨_, rfl⟩
  obtain ⟨P10, hP10⟩ : ∃ P, pairC p q = P := ⟨_, rfl⟩
  have HE8 := Lib.hid hP8; have HE10 := Lib.hid hP10
  rw [hP8] at HSZ8
  rw [hP10] at HSZ10
  have hS := IpS.to3 hP8 hP10 (hS4.below (Below.refl w4.heap.size w4).drew)
  have HSF := Lib.hid (hS4.below (Below.refl w4.heap.size w4).drew)
  obtain ⟨r1, r2, hRR⟩ := HSF.out.R
  have q0 := hRR.c0; have q1 := hRR.c1; have q2 := hRR.free 0; have q3 := hRR.free 1
  have HRB := Lib.hid hRR; have HBB := Lib.hid HSF.out.bel
  generalize hg8 : w1.heap.size = g8 at *
  generalize hg10 : w3.heap.size = g10 at *
  clear hS4 hRR hP8 hP10 HX1 HRR1 HB1 H31 H41 HP2 HX2 HRR2 HB2 H32 H42 HP3 HRR3 HB3 HQ4 HP4 HRR4 HB4 HX HR HB H1 H2 H3 H4 HR1 HR2 hg8 hg10
  go_region_held3 (fun w' => Hid (IpS w g8 g10 t b p q w') ∧ (loadQ (.pointer (some ⟨g8, 0, none⟩))).run Try.prog w' = .ok (.agg P8) w' ∧ (loadQ (.pointer (some ⟨g10, 0, none⟩))).run Try.prog w' = .ok (.agg P10) w')
    (first | assumption | exact ip_keep3 HE8.out HE10.out (by assumption) (by assumption))
    (first
      | (go_at_call_of 48 (Value.agg P8); ((refine (HSZ8.out _).mono ?_); rintro e w5 ⟨rfl, hb5⟩; have HSF := Lib.hid (ip_keep3 HE8.out HE10.out (by assumption) hb5).1.out; obtain ⟨r1, r2, hRR⟩ := HSF.out.R; have q0 := hRR.c0; have q1 := hRR.c1; have q2 := hRR.free 0; have q3 := hRR.free 1; have HRB := Lib.hid hRR; have HBB := Lib.hid HSF.out.bel; clear hRR))
      | (go_at_call_of 48 (Value.agg P10); ((refine (HSZ10.out _).mono ?_); rintro e w5 ⟨rfl, hb5⟩; have HSF := Lib.hid (ip_keep3 HE8.out HE10.out (by assumption) hb5).1.out; obtain ⟨r1, r2, hRR⟩ := HSF.out.R; have q0 := hRR.c0; have q1 := hRR.c1; have q2 := hRR.free 0; have q3 := hRR.free 1; have HRB := Lib.hid hRR; have HBB := Lib.hid HSF.out.bel; clear hRR)))
  all_goals
    go_wp2_with fail
    clear hS q0 q1 q2 q3 HRB HBB
    generalize w5 = wz at *
    have hS := IpS.to5 (HSF.out.below (Below.refl wz.heap.size wz).drew)
    go_region_held3 (fun w' => Hid (IpS w g8 g10 t b p q w') ∧ (loadS (.pointer (some ⟨g8, 0, none⟩))).run Try.prog w' = .ok (.agg (sysC t)) w' ∧ (loadS (.pointer (some ⟨g8, 13, none⟩))).run Try.prog w' = .ok (.agg (sysC b)) w' ∧ (loadS (.pointer (some ⟨g10, 0, none⟩))).run Try.prog w' = .ok (.agg (sysC p)) w' ∧ (loadS (.pointer (some ⟨g10, 13, none⟩))).run Try.prog w' = .ok (.agg (sysC q)) w')
      (first | assumption | exact ip_keep5 (by assumption) (by assumption) | exact ip_set5 (by assumption))
      (first
        | (go_at_call_of 59 (Value.agg (sysC t)); ((refine (HW1.out _).mono ?_); rintro e w6 ⟨rfl, hb6⟩; rw [ET1.out]))
        | (go_at_call_of 59 (Value.agg (sysC b)); ((refine (HW2.out _).mono ?_); rintro e w7 ⟨rfl, hb7⟩; rw [ET2.out]))
        | (go_at_call 54; ((refine (HPM.out _).mono ?_); rintro e w8 ⟨v1, v2, rfl, o1, o2, ap, hb8⟩; obtain ⟨x1, y1, z1, rfl⟩ := o1.form'; obtain ⟨x2, y2, z2, rfl⟩ := o2.form'; have HO1 := Lib.hid (ip_mono (by assumption) o1); have HO2 := Lib.hid (ip_mono (by assumption) o2); have HAP := Lib.hid ap; have HSF := Lib.hid (ip_keep5 (by assumption) hb8).1.out; obtain ⟨r1, r2, hRR⟩ := HSF.out.R; have q0 := hRR.c0; have q1 := hRR.c1; have q2 := hRR.free 0; have q3 := hRR.free 1; have HRB := Lib.hid hRR; have HBB := Lib.hid HSF.out.bel; clear hRR o1 o2 ap)))
    all_goals
      go_wp2_with fail
      exact bodyPost_ret (results_iIP _ _ (w.heap.size + 1 + 1) _ _ true ((HRB.out.set0 _).set1 _) rfl rfl) rfl ⟨_, _, rfl, (HO1.out.set2 (by omega) _ _).mono (by omega), (HO2.out.set2 (by omega) _ _).mono (by omega), HAP.out, (HBB.out.setCell (p := ⟨(w.heap.size + 1 + 1), 0, none⟩) (by show w.heap.size ≤ w.heap.size + 1 + 1; omega) _).setCell (p := ⟨(w.heap.size + 1 + 1), 1, none⟩) (by show w.heap.size ≤ w.heap.size + 1 + 1; omega) _⟩

end Go.Proofs.Ytaeeopdiodaiaaa
