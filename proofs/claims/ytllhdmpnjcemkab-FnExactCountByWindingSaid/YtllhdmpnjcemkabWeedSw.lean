/- A step that winds a seaweed down, by the model. -/
import Derived.Test.YtllhdmpnjcemkabWeedSwPut
namespace Go.Proofs.Ytllhdmpnjcemkab
open Go.RowKit
set_option linter.unusedSimpArgs false
set_option linter.unusedVariables false

def letB (n : Nat) : ByteArray := if n = 0 then ⟨#[70]⟩ else if n = 1 then ⟨#[67]⟩ else if n = 2 then ⟨#[66]⟩ else if n = 3 then ⟨#[82]⟩ else ⟨#[80]⟩
def MadeX (w : World) (t b : List Int) (s : ByteArray) (e : Ending) (w' : World) : Prop := ∃ v1 v2, e = .returned (.tuple #[.agg #[v1, v2], .string s]) ∧ Own w.heap.size w' v1 t ∧ Own w.heap.size w' v2 b ∧ ApartV v1 v2 ∧ Below w.heap.size w w'
theorem s2_keep {w w1 w2 : World} {g : Nat} {u1 u2 : Value} (h : Hid (Below w.heap.size w w1) ∧ w1.cell? ⟨g, 0, none⟩ = some u1 ∧ w1.cell? ⟨g, 1, none⟩ = some u2) (hb : Below w1.heap.size w1 w2) :
    Hid (Below w.heap.size w w2) ∧ w2.cell? ⟨g, 0, none⟩ = some u1 ∧ w2.cell? ⟨g, 1, none⟩ = some u2 := by
  have k : ∀ (a : Addr) v, w1.cell? a = some v → w2.cell? a = some v := fun a v hv => (hb.cell (World.block_lt_of_cell? w1 _ hv)).trans hv
  exact ⟨h.1.out.trans (hb.mono h.1.out.size), k _ _ h.2.1, k _ _ h.2.2⟩
theorem s2_out {w w1 : World} {g : Nat} {u1 u2 : Value} (h : Hid (Below w.heap.size w w1) ∧ w1.cell? ⟨g, 0, none⟩ = some u1 ∧ w1.cell? ⟨g, 1, none⟩ = some u2) : Below w.heap.size w w1 := h.1
theorem s2_alloc {w w1 : World} {g : Nat} {u1 u2 : Value} (h : Hid (Below w.heap.size w w1) ∧ w1.cell? ⟨g, 0, none⟩ = some u1 ∧ w1.cell? ⟨g, 1, none⟩ = some u2) (o : Obj) :
    Hid (Below w.heap.size w (w1.alloc o)) ∧ (w1.alloc o).cell? ⟨g, 0, none⟩ = some u1 ∧ (w1.alloc o).cell? ⟨g, 1, none⟩ = some u2 := s2_keep h (Below.alloc1 w1 o)
theorem s2_allocD {w w1 : World} {g : Nat} {u1 u2 : Value} (h : Hid (Below w.heap.size w w1.drew) ∧ w1.drew.cell? ⟨g, 0, none⟩ = some u1 ∧ w1.drew.cell? ⟨g, 1, none⟩ = some u2) (o : Obj) :
    Hid (Below w.heap.size w (w1.alloc o).drew) ∧ (w1.alloc o).drew.cell? ⟨g, 0, none⟩ = some u1 ∧ (w1.alloc o).drew.cell? ⟨g, 1, none⟩ = some u2 := s2_keep (w2 := w1.drew.alloc o) h (Below.alloc1 w1.drew o)
theorem s2_set {w w1 : World} {u1 u2 : Value} (h : Hid (Below w.heap.size w w1) ∧ w1.cell? ⟨w.heap.size, 0, none⟩ = some u1 ∧ w1.cell? ⟨w.heap.size, 1, none⟩ = some u2) (x y : Value) :
    Hid (Below w.heap.size w ((w1.setCell ⟨w.heap.size + 1, 0, none⟩ x).setCell ⟨w.heap.size + 1, 1, none⟩ y)) ∧ ((w1.setCell ⟨w.heap.size + 1, 0, none⟩ x).setCell ⟨w.heap.size + 1, 1, none⟩ y).cell? ⟨w.heap.size, 0, none⟩ = some u1 ∧ ((w1.setCell ⟨w.heap.size + 1, 0, none⟩ x).setCell ⟨w.heap.size + 1, 1, none⟩ y).cell? ⟨w.heap.size, 1, none⟩ = some u2 := by
  have hb : Below (w.heap.size + 1) w1 ((w1.setCell ⟨w.heap.size + 1, 0, none⟩ x).setCell ⟨w.heap.size + 1, 1, none⟩ y) := ((Below.refl _ w1).setCell (p := ⟨w.heap.size + 1, 0, none⟩) (Nat.le_refl _) x).setCell (p := ⟨w.heap.size + 1, 1, none⟩) (Nat.le_refl _) y
  have hB := (h.1.out.setCell (p := ⟨w.heap.size + 1, 0, none⟩) (by show _ ≤ w.heap.size + 1; omega) x).setCell (p := ⟨w.heap.size + 1, 1, none⟩) (by show _ ≤ w.heap.size + 1; omega) y
  have k : ∀ (a : Addr) v, a.block < w.heap.size + 1 → w1.cell? a = some v → ((w1.setCell ⟨w.heap.size + 1, 0, none⟩ x).setCell ⟨w.heap.size + 1, 1, none⟩ y).cell? a = some v := fun a v ha hv => (hb.cell ha).trans hv
  exact ⟨hB, k _ _ (by show w.heap.size < _; omega) h.2.1, k _ _ (by show w.heap.size < _; omega) h.2.2⟩
/-- a result that is stored -/
theorem put_res {w W w2 : World} {v1 v2 : Value} {l1 l2 : List Int} {r1 r2 : Value} (HR : Box2 28 w2 (w.heap.size + 1) r1 r2) (H1 : Own W.heap.size w2 v1 l1) (H2 : Own W.heap.size w2 v2 l2) (AP : ApartV v1 v2) (hg : w.heap.size + 1 < W.heap.size) (HB : Below w.heap.size w w2) :
    Hid (Box2 28 ((w2.setCell ⟨w.heap.size + 1, 0, none⟩ v1).setCell ⟨w.heap.size + 1, 1, none⟩ v2) (w.heap.size + 1) v1 v2 ∧
      Own w.heap.size ((w2.setCell ⟨w.heap.size + 1, 0, none⟩ v1).setCell ⟨w.heap.size + 1, 1, none⟩ v2) v1 l1 ∧
      Own w.heap.size ((w2.setCell ⟨w.heap.size + 1, 0, none⟩ v1).setCell ⟨w.heap.size + 1, 1, none⟩ v2) v2 l2 ∧ ApartV v1 v2 ∧
      Below w.heap.size w ((w2.setCell ⟨w.heap.size + 1, 0, none⟩ v1).setCell ⟨w.heap.size + 1, 1, none⟩ v2)) :=
  ⟨(HR.set0 _).set1 _, (H1.set2 hg _ _).mono (by omega), (H2.set2 hg _ _).mono (by omega), AP, (HB.setCell (p := ⟨w.heap.size + 1, 0, none⟩) (by show _ ≤ w.heap.size + 1; omega) v1).setCell (p := ⟨w.heap.size + 1, 1, none⟩) (by show _ ≤ w.heap.size + 1; omega) v2⟩
theorem apart_of {w1 w2 : World} {K B : Nat} {v1 v2 : Value} {l1 l2 : List Int} (H1 : Own K w1 v1 l1) (H2 : Own B w2 v2 l2) (h : w1.heap.size ≤ B) : ApartV v1 v2 := fun k hk hk' => by
  have h5 := (H1.lt k hk).2; have h6 := (H2.lt k hk').1; omega
theorem litS1 (W : World) (y : Int) : Rd (W.alloc (.cells #[.int .i64 y] 3)) (.slice (some ⟨W.heap.size, 0, none⟩) 1 1) [y] := Own.rd (Own.lit1 0 W y (Nat.zero_le _))

theorem results_sw (tmps : Array Value) (w : World) (g : Nat) (v1 v2 : Value) (s : ByteArray) (hg : Box2 28 w g v1 v2) (h2 : tmps.getD 2 undef = .pointer (some ⟨g, 0, none⟩)) (h3 : tmps.getD 3 undef = .string s) :
    (results Try.f33 tmps).run Try.prog w = .ok (.tuple #[.agg #[v1, v2], .string s]) w := by
  have h2' : tmps[2]?.getD undef = .pointer (some ⟨g, 0, none⟩) := by simpa using h2
  have h3' : tmps[3]?.getD undef = .string s := by simpa using h3
  have hr : Try.f33.results = #[.cell 2 28, .tmp 3] := by kernel_rfl
  simp [results, hr, h2', h3', asAddr, run_loadSea w g v1 v2 hg]
set_option maxHeartbeats 1500000 in
theorem swStep_F (u1 u2 : Value) (t b : List Int) (w : World) (h1 : Rd w u1 t) (h2 : Rd w u2 b) (t0 : 0 < t.length) (b0 : 0 < b.length) (hl1' : t.length ≤ 20) (hl2' : b.length ≤ 20) (hxb : 1 ≤ hdI t ∧ hdI t ≤ 20) (hyb : 1 ≤ hdI b ∧ hdI b ≤ 20) (hc : hdI t < hdI b) :
    Calls Try.prog 33 #[.agg #[u1, u2]] w (MadeX w (b) (t) (letB 0)) := by
  have o1' : ∀ v (l : List Int) W, Rd w v l → l.length ≤ 1000 → Below w.heap.size w W → Calls Try.prog 52 #[v] W (Made W l) := fun v l W h hl hb => l1Own_any v l W (h.below hb) (by omega)
  have q1' : ∀ v s (l xs : List Int) W, Rd w v l → 0 < l.length → l.length ≤ 1000 → Below w.heap.size w W → Rd W s xs → xs.length ≤ 1000 → Calls Try.prog 53 #[v, s] W (Made W (xs ++ l.tail)) := fun v s l xs W h h0 hl hb hs hx => swPut_any v s l xs W (h.below hb) hs h0 hl hx
  have R1 := Lib.hid h1; have R2 := Lib.hid h2
  obtain ⟨x1, o1, d1, rfl, hl1, hm1, hc1⟩ := h1.at t0
  obtain ⟨x2, o2, d2, rfl, hl2, hm2, hc2⟩ := h2.at b0
  have hx1 := hc1 0 t0; have hy1 := hc2 0 b0
  rw [Nat.add_zero] at hx1 hy1
  have hk1 := World.block_lt_of_cell? w _ hx1; have hk2 := World.block_lt_of_cell? w _ hy1
  obtain ⟨n1, e1⟩ : ∃ n, t.length = n + 1 := ⟨t.length - 1, by omega⟩
  obtain ⟨n2, e2⟩ : ∃ n, b.length = n + 1 := ⟨b.length - 1, by omega⟩
  have G1 := Lib.hid (Rd.tail e1 hl1 hm1 hc1); have G2 := Lib.hid (Rd.tail e2 hl2 hm2 hc2)
  have T1 : Hid (t.length ≤ 1000 ∧ 0 < t.length ∧ t.tail.length ≤ 1000) := by refine ⟨by omega, by omega, ?_⟩; rw [List.length_tail]; omega
  have T2 : Hid (b.length ≤ 1000 ∧ 0 < b.length ∧ b.tail.length ≤ 1000) := by refine ⟨by omega, by omega, ?_⟩; rw [List.length_tail]; omega
  unfold maxLen at hm1 hm2
  rw [e1] at hl1 R1 ⊢; rw [e2] at hl2 R2 ⊢
  have HO := Lib.hid o1'; have HQ := Lib.hid q1'
  have HB2 := Lib.hid (below2 w (.cells #[.slice (some ⟨x1, o1, none⟩) (n1 + 1) d1, .slice (some ⟨x2, o2, none⟩) (n2 + 1) d2] 28) (.cells #[.slice none 0 0, .slice none 0 0] 28))
  have HA := Lib.hid (Box2.below (Box2.new 28 w (.slice (some ⟨x1, o1, none⟩) (n1 + 1) d1) (.slice (some ⟨x2, o2, none⟩) (n2 + 1) d2)) (Below.alloc1 _ (.cells #[.slice none 0 0, .slice none 0 0] 28)))
  have HR := Lib.hid (Box2.at1 28 w (.cells #[.slice (some ⟨x1, o1, none⟩) (n1 + 1) d1, .slice (some ⟨x2, o2, none⟩) (n2 + 1) d2] 28) (.slice none 0 0) (.slice none 0 0))
  clear h1 h2 hc1 hc2 o1' q1' hl1' hl2' t0 b0
  have hx1' : w.cell? ⟨x1, o1, none⟩ = some (.int .i64 (hdI t)) := hx1; clear hx1; have hx1 := hx1'; clear hx1'
  have hy1' : w.cell? ⟨x2, o2, none⟩ = some (.int .i64 (hdI b)) := hy1; clear hy1; have hy1 := hy1'; clear hy1'
  generalize hdI t = x at *
  generalize hdI b = y at *
  have i1 : (1 : Int) ≤ (n1 : Int) + 1 := by omega
  have i2 : (n1 : Int) + 1 ≤ (d1 : Int) := by omega
  have i3 : (1 : Int) ≤ (d1 : Int) := by omega
  have i4 : (0 : Int) ≤ (n1 : Int) + 1 := by omega
  have i5 : (0 : Int) ≤ (d1 : Int) := by omega
  have i6 : (1 : Int) ≤ (n2 : Int) + 1 := by omega
  have i7 : (n2 : Int) + 1 ≤ (d2 : Int) := by omega
  have i8 : (1 : Int) ≤ (d2 : Int) := by omega
  have i9 : (0 : Int) ≤ (n2 : Int) + 1 := by omega
  have i10 : (0 : Int) ≤ (d2 : Int) := by omega
  go_enter Try.func33, Try.ntmps33
  go_wp2_with fail
  generalize ((w.alloc (.cells #[.slice (some ⟨x1, o1, none⟩) (n1 + 1) d1, .slice (some ⟨x2, o2, none⟩) (n2 + 1) d2] 28)).alloc (.cells #[.slice none 0 0, .slice none 0 0] 28)) = W0 at *
  have p0 := HA.out.c0; have p1 := HA.out.c1
  have c0 := (HB2.out.cell hk1).trans hx1; have c1 := (HB2.out.cell hk2).trans hy1
  go_region
  have HB2 := Lib.hid (HB2.out.drew); have HA := Lib.hid (HA.out.below (Below.refl _ W0).drew); have HR := Lib.hid (HR.out.below (Below.refl _ W0).drew)
  clear p0 p1 c0 c1
  generalize W0.drew = W at *
  have p0 := HA.out.c0; have p1 := HA.out.c1
  go_wp2_with fail
  have hS : Hid (Below w.heap.size w W.drew) ∧ W.drew.cell? ⟨w.heap.size, 0, none⟩ = some (.slice (some ⟨x1, o1, none⟩) (n1 + 1) d1) ∧ W.drew.cell? ⟨w.heap.size, 1, none⟩ = some (.slice (some ⟨x2, o2, none⟩) (n2 + 1) d2) := ⟨HB2.out.drew, HA.out.c0, HA.out.c1⟩
  go_region_held3 (fun w' => Hid (Below w.heap.size w w') ∧ w'.cell? ⟨w.heap.size, 0, none⟩ = some (.slice (some ⟨x1, o1, none⟩) (n1 + 1) d1) ∧ w'.cell? ⟨w.heap.size, 1, none⟩ = some (.slice (some ⟨x2, o2, none⟩) (n2 + 1) d2))
    (first | assumption | exact s2_keep (by assumption) (by assumption) | exact s2_allocD (by assumption) _ | exact s2_alloc (by assumption) _ | exact s2_set (by assumption) _ _)
    (first
      | (go_at_call 52; ((with_reducible refine (HO.out _ _ _ R2.out T2.out.1 (s2_out (by assumption))).mono ?_); rintro e w1 ⟨v1, rfl, ho1, hb1⟩; obtain ⟨z1, y1, q1, rfl⟩ := ho1.form'; have HO1 := Lib.hid (ho1.mono (Nat.le_refl _ : W.heap.size ≤ W.drew.heap.size)); have HB4 := Lib.hid (Below.step HB2.out.drew hb1); have HR1 := Lib.hid ((HR.out.below (Below.refl _ W).drew).below hb1); have HZ1 := Lib.hid (show W.heap.size ≤ w1.heap.size from hb1.size); clear ho1))
      | (go_at_call 52; ((with_reducible refine (HO.out _ _ _ R1.out T1.out.1 (s2_out (by assumption))).mono ?_); rintro e w2 ⟨v2, rfl, ho2, hb2⟩; obtain ⟨z2, y2, q2, rfl⟩ := ho2.form'; have HP1 := Lib.hid (Own.below HO1.out hb2); have HP2 := Lib.hid (ho2.mono HZ1.out); have HB5 := Lib.hid (Below.step HB4.out hb2); have hR := (HR1.out.below hb2); have HAP := Lib.hid (apart_of HO1.out ho2 (Nat.le_refl _)); have r0 := hR.c0; have r1 := hR.c1; have r2 := hR.free 0; have r3 := hR.free 1; have HR4 := Lib.hid hR; clear ho2 hR)))
  all_goals
    have HF := put_res HR4.out HP1.out HP2.out HAP.out HR.out.lt HB5.out
    go_wp2
    exact bodyPost_ret (results_sw _ _ (w.heap.size + 1) _ _ _ HF.out.1 rfl rfl) rfl ⟨_, _, rfl, HF.out.2.1, HF.out.2.2.1, HF.out.2.2.2.1, HF.out.2.2.2.2⟩
set_option maxHeartbeats 1500000 in
theorem swStep_C (u1 u2 : Value) (t b : List Int) (w : World) (h1 : Rd w u1 t) (h2 : Rd w u2 b) (t0 : 0 < t.length) (b0 : 0 < b.length) (hl1' : t.length ≤ 20) (hl2' : b.length ≤ 20) (hxb : 1 ≤ hdI t ∧ hdI t ≤ 20) (hyb : 1 ≤ hdI b ∧ hdI b ≤ 20) (hc : hdI t = hdI b) :
    Calls Try.prog 33 #[.agg #[u1, u2]] w (MadeX w (t.tail) (b.tail) (letB 1)) := by
  have o1' : ∀ v (l : List Int) W, Rd w v l → l.length ≤ 1000 → Below w.heap.size w W → Calls Try.prog 52 #[v] W (Made W l) := fun v l W h hl hb => l1Own_any v l W (h.below hb) (by omega)
  have q1' : ∀ v s (l xs : List Int) W, Rd w v l → 0 < l.length → l.length ≤ 1000 → Below w.heap.size w W → Rd W s xs → xs.length ≤ 1000 → Calls Try.prog 53 #[v, s] W (Made W (xs ++ l.tail)) := fun v s l xs W h h0 hl hb hs hx => swPut_any v s l xs W (h.below hb) hs h0 hl hx
  have R1 := Lib.hid h1; have R2 := Lib.hid h2
  obtain ⟨x1, o1, d1, rfl, hl1, hm1, hc1⟩ := h1.at t0
  obtain ⟨x2, o2, d2, rfl, hl2, hm2, hc2⟩ := h2.at b0
  have hx1 := hc1 0 t0; have hy1 := hc2 0 b0
  rw [Nat.add_zero] at hx1 hy1
  have hk1 := World.block_lt_of_cell? w _ hx1; have hk2 := World.block_lt_of_cell? w _ hy1
  obtain ⟨n1, e1⟩ : ∃ n, t.length = n + 1 := ⟨t.length - 1, by omega⟩
  obtain ⟨n2, e2⟩ : ∃ n, b.length = n + 1 := ⟨b.length - 1, by omega⟩
  have G1 := Lib.hid (Rd.tail e1 hl1 hm1 hc1); have G2 := Lib.hid (Rd.tail e2 hl2 hm2 hc2)
  have T1 : Hid (t.length ≤ 1000 ∧ 0 < t.length ∧ t.tail.length ≤ 1000) := by refine ⟨by omega, by omega, ?_⟩; rw [List.length_tail]; omega
  have T2 : Hid (b.length ≤ 1000 ∧ 0 < b.length ∧ b.tail.length ≤ 1000) := by refine ⟨by omega, by omega, ?_⟩; rw [List.length_tail]; omega
  unfold maxLen at hm1 hm2
  rw [e1] at hl1 R1 ⊢; rw [e2] at hl2 R2 ⊢
  have HO := Lib.hid o1'; have HQ := Lib.hid q1'
  have HB2 := Lib.hid (below2 w (.cells #[.slice (some ⟨x1, o1, none⟩) (n1 + 1) d1, .slice (some ⟨x2, o2, none⟩) (n2 + 1) d2] 28) (.cells #[.slice none 0 0, .slice none 0 0] 28))
  have HA := Lib.hid (Box2.below (Box2.new 28 w (.slice (some ⟨x1, o1, none⟩) (n1 + 1) d1) (.slice (some ⟨x2, o2, none⟩) (n2 + 1) d2)) (Below.alloc1 _ (.cells #[.slice none 0 0, .slice none 0 0] 28)))
  have HR := Lib.hid (Box2.at1 28 w (.cells #[.slice (some ⟨x1, o1, none⟩) (n1 + 1) d1, .slice (some ⟨x2, o2, none⟩) (n2 + 1) d2] 28) (.slice none 0 0) (.slice none 0 0))
  clear h1 h2 hc1 hc2 o1' q1' hl1' hl2' t0 b0
  have hx1' : w.cell? ⟨x1, o1, none⟩ = some (.int .i64 (hdI t)) := hx1; clear hx1; have hx1 := hx1'; clear hx1'
  have hy1' : w.cell? ⟨x2, o2, none⟩ = some (.int .i64 (hdI b)) := hy1; clear hy1; have hy1 := hy1'; clear hy1'
  generalize hdI t = x at *
  generalize hdI b = y at *
  have i1 : (1 : Int) ≤ (n1 : Int) + 1 := by omega
  have i2 : (n1 : Int) + 1 ≤ (d1 : Int) := by omega
  have i3 : (1 : Int) ≤ (d1 : Int) := by omega
  have i4 : (0 : Int) ≤ (n1 : Int) + 1 := by omega
  have i5 : (0 : Int) ≤ (d1 : Int) := by omega
  have i6 : (1 : Int) ≤ (n2 : Int) + 1 := by omega
  have i7 : (n2 : Int) + 1 ≤ (d2 : Int) := by omega
  have i8 : (1 : Int) ≤ (d2 : Int) := by omega
  have i9 : (0 : Int) ≤ (n2 : Int) + 1 := by omega
  have i10 : (0 : Int) ≤ (d2 : Int) := by omega
  by_cases hd1 : d1 = 1
  · have K1 := Lib.hid (tail_one G1.out hd1); clear G1
    obtain rfl : n1 = 0 := by omega
    subst hd1
    simp only [Nat.zero_add] at HB2 HA HR R1 ⊢
    by_cases hd2 : d2 = 1
    · have K2 := Lib.hid (tail_one G2.out hd2); clear G2
      obtain rfl : n2 = 0 := by omega
      subst hd2
      simp only [Nat.zero_add] at HB2 HA HR R2 ⊢
      go_enter Try.func33, Try.ntmps33
      go_wp2_with fail
      generalize ((w.alloc (.cells #[.slice (some ⟨x1, o1, none⟩) 1 1, .slice (some ⟨x2, o2, none⟩) 1 1] 28)).alloc (.cells #[.slice none 0 0, .slice none 0 0] 28)) = W0 at *
      have p0 := HA.out.c0; have p1 := HA.out.c1
      have c0 := (HB2.out.cell hk1).trans hx1; have c1 := (HB2.out.cell hk2).trans hy1
      go_region
      have HB2 := Lib.hid (HB2.out.drew); have HA := Lib.hid (HA.out.below (Below.refl _ W0).drew); have HR := Lib.hid (HR.out.below (Below.refl _ W0).drew)
      clear p0 p1 c0 c1
      generalize W0.drew = W at *
      have p0 := HA.out.c0; have p1 := HA.out.c1
      go_wp2_with fail
      have hS : Hid (Below w.heap.size w W.drew) ∧ W.drew.cell? ⟨w.heap.size, 0, none⟩ = some (.slice (some ⟨x1, o1, none⟩) 1 1) ∧ W.drew.cell? ⟨w.heap.size, 1, none⟩ = some (.slice (some ⟨x2, o2, none⟩) 1 1) := ⟨HB2.out.drew, HA.out.c0, HA.out.c1⟩
      go_region_held3 (fun w' => Hid (Below w.heap.size w w') ∧ w'.cell? ⟨w.heap.size, 0, none⟩ = some (.slice (some ⟨x1, o1, none⟩) 1 1) ∧ w'.cell? ⟨w.heap.size, 1, none⟩ = some (.slice (some ⟨x2, o2, none⟩) 1 1))
        (first | assumption | exact s2_keep (by assumption) (by assumption) | exact s2_allocD (by assumption) _ | exact s2_alloc (by assumption) _ | exact s2_set (by assumption) _ _)
        (first
          | (go_at_call 52; ((with_reducible refine (HO.out _ _ _ K1.out T1.out.2.2 (s2_out (by assumption))).mono ?_); rintro e w1 ⟨v1, rfl, ho1, hb1⟩; obtain ⟨z1, y1, q1, rfl⟩ := ho1.form'; have HO1 := Lib.hid (ho1.mono (Nat.le_refl _ : W.heap.size ≤ W.drew.heap.size)); have HB4 := Lib.hid (Below.step HB2.out.drew hb1); have HR1 := Lib.hid ((HR.out.below (Below.refl _ W).drew).below hb1); have HZ1 := Lib.hid (show W.heap.size ≤ w1.heap.size from hb1.size); clear ho1))
          | (go_at_call 52; ((with_reducible refine (HO.out _ _ _ K2.out T2.out.2.2 (s2_out (by assumption))).mono ?_); rintro e w2 ⟨v2, rfl, ho2, hb2⟩; obtain ⟨z2, y2, q2, rfl⟩ := ho2.form'; have HP1 := Lib.hid (Own.below HO1.out hb2); have HP2 := Lib.hid (ho2.mono HZ1.out); have HB5 := Lib.hid (Below.step HB4.out hb2); have hR := (HR1.out.below hb2); have HAP := Lib.hid (apart_of HO1.out ho2 (Nat.le_refl _)); have r0 := hR.c0; have r1 := hR.c1; have r2 := hR.free 0; have r3 := hR.free 1; have HR4 := Lib.hid hR; clear ho2 hR)))
      all_goals
        have HF := put_res HR4.out HP1.out HP2.out HAP.out HR.out.lt HB5.out
        go_wp2
        exact bodyPost_ret (results_sw _ _ (w.heap.size + 1) _ _ _ HF.out.1 rfl rfl) rfl ⟨_, _, rfl, HF.out.2.1, HF.out.2.2.1, HF.out.2.2.2.1, HF.out.2.2.2.2⟩
    · have K2 := Lib.hid (tail_more G2.out hd2); clear G2
      go_enter Try.func33, Try.ntmps33
      go_wp2_with fail
      generalize ((w.alloc (.cells #[.slice (some ⟨x1, o1, none⟩) 1 1, .slice (some ⟨x2, o2, none⟩) (n2 + 1) d2] 28)).alloc (.cells #[.slice none 0 0, .slice none 0 0] 28)) = W0 at *
      have p0 := HA.out.c0; have p1 := HA.out.c1
      have c0 := (HB2.out.cell hk1).trans hx1; have c1 := (HB2.out.cell hk2).trans hy1
      go_region
      have HB2 := Lib.hid (HB2.out.drew); have HA := Lib.hid (HA.out.below (Below.refl _ W0).drew); have HR := Lib.hid (HR.out.below (Below.refl _ W0).drew)
      clear p0 p1 c0 c1
      generalize W0.drew = W at *
      have p0 := HA.out.c0; have p1 := HA.out.c1
      go_wp2_with fail
      have hS : Hid (Below w.heap.size w W.drew) ∧ W.drew.cell? ⟨w.heap.size, 0, none⟩ = some (.slice (some ⟨x1, o1, none⟩) 1 1) ∧ W.drew.cell? ⟨w.heap.size, 1, none⟩ = some (.slice (some ⟨x2, o2, none⟩) (n2 + 1) d2) := ⟨HB2.out.drew, HA.out.c0, HA.out.c1⟩
      go_region_held3 (fun w' => Hid (Below w.heap.size w w') ∧ w'.cell? ⟨w.heap.size, 0, none⟩ = some (.slice (some ⟨x1, o1, none⟩) 1 1) ∧ w'.cell? ⟨w.heap.size, 1, none⟩ = some (.slice (some ⟨x2, o2, none⟩) (n2 + 1) d2))
        (first | assumption | exact s2_keep (by assumption) (by assumption) | exact s2_allocD (by assumption) _ | exact s2_alloc (by assumption) _ | exact s2_set (by assumption) _ _)
        (first
          | (go_at_call 52; ((with_reducible refine (HO.out _ _ _ K1.out T1.out.2.2 (s2_out (by assumption))).mono ?_); rintro e w1 ⟨v1, rfl, ho1, hb1⟩; obtain ⟨z1, y1, q1, rfl⟩ := ho1.form'; have HO1 := Lib.hid (ho1.mono (Nat.le_refl _ : W.heap.size ≤ W.drew.heap.size)); have HB4 := Lib.hid (Below.step HB2.out.drew hb1); have HR1 := Lib.hid ((HR.out.below (Below.refl _ W).drew).below hb1); have HZ1 := Lib.hid (show W.heap.size ≤ w1.heap.size from hb1.size); clear ho1))
          | (go_at_call 52; ((with_reducible refine (HO.out _ _ _ K2.out T2.out.2.2 (s2_out (by assumption))).mono ?_); rintro e w2 ⟨v2, rfl, ho2, hb2⟩; obtain ⟨z2, y2, q2, rfl⟩ := ho2.form'; have HP1 := Lib.hid (Own.below HO1.out hb2); have HP2 := Lib.hid (ho2.mono HZ1.out); have HB5 := Lib.hid (Below.step HB4.out hb2); have hR := (HR1.out.below hb2); have HAP := Lib.hid (apart_of HO1.out ho2 (Nat.le_refl _)); have r0 := hR.c0; have r1 := hR.c1; have r2 := hR.free 0; have r3 := hR.free 1; have HR4 := Lib.hid hR; clear ho2 hR)))
      all_goals
        have HF := put_res HR4.out HP1.out HP2.out HAP.out HR.out.lt HB5.out
        go_wp2
        exact bodyPost_ret (results_sw _ _ (w.heap.size + 1) _ _ _ HF.out.1 rfl rfl) rfl ⟨_, _, rfl, HF.out.2.1, HF.out.2.2.1, HF.out.2.2.2.1, HF.out.2.2.2.2⟩
  · have K1 := Lib.hid (tail_more G1.out hd1); clear G1
    by_cases hd2 : d2 = 1
    · have K2 := Lib.hid (tail_one G2.out hd2); clear G2
      obtain rfl : n2 = 0 := by omega
      subst hd2
      simp only [Nat.zero_add] at HB2 HA HR R2 ⊢
      go_enter Try.func33, Try.ntmps33
      go_wp2_with fail
      generalize ((w.alloc (.cells #[.slice (some ⟨x1, o1, none⟩) (n1 + 1) d1, .slice (some ⟨x2, o2, none⟩) 1 1] 28)).alloc (.cells #[.slice none 0 0, .slice none 0 0] 28)) = W0 at *
      have p0 := HA.out.c0; have p1 := HA.out.c1
      have c0 := (HB2.out.cell hk1).trans hx1; have c1 := (HB2.out.cell hk2).trans hy1
      go_region
      have HB2 := Lib.hid (HB2.out.drew); have HA := Lib.hid (HA.out.below (Below.refl _ W0).drew); have HR := Lib.hid (HR.out.below (Below.refl _ W0).drew)
      clear p0 p1 c0 c1
      generalize W0.drew = W at *
      have p0 := HA.out.c0; have p1 := HA.out.c1
      go_wp2_with fail
      have hS : Hid (Below w.heap.size w W.drew) ∧ W.drew.cell? ⟨w.heap.size, 0, none⟩ = some (.slice (some ⟨x1, o1, none⟩) (n1 + 1) d1) ∧ W.drew.cell? ⟨w.heap.size, 1, none⟩ = some (.slice (some ⟨x2, o2, none⟩) 1 1) := ⟨HB2.out.drew, HA.out.c0, HA.out.c1⟩
      go_region_held3 (fun w' => Hid (Below w.heap.size w w') ∧ w'.cell? ⟨w.heap.size, 0, none⟩ = some (.slice (some ⟨x1, o1, none⟩) (n1 + 1) d1) ∧ w'.cell? ⟨w.heap.size, 1, none⟩ = some (.slice (some ⟨x2, o2, none⟩) 1 1))
        (first | assumption | exact s2_keep (by assumption) (by assumption) | exact s2_allocD (by assumption) _ | exact s2_alloc (by assumption) _ | exact s2_set (by assumption) _ _)
        (first
          | (go_at_call 52; ((with_reducible refine (HO.out _ _ _ K1.out T1.out.2.2 (s2_out (by assumption))).mono ?_); rintro e w1 ⟨v1, rfl, ho1, hb1⟩; obtain ⟨z1, y1, q1, rfl⟩ := ho1.form'; have HO1 := Lib.hid (ho1.mono (Nat.le_refl _ : W.heap.size ≤ W.drew.heap.size)); have HB4 := Lib.hid (Below.step HB2.out.drew hb1); have HR1 := Lib.hid ((HR.out.below (Below.refl _ W).drew).below hb1); have HZ1 := Lib.hid (show W.heap.size ≤ w1.heap.size from hb1.size); clear ho1))
          | (go_at_call 52; ((with_reducible refine (HO.out _ _ _ K2.out T2.out.2.2 (s2_out (by assumption))).mono ?_); rintro e w2 ⟨v2, rfl, ho2, hb2⟩; obtain ⟨z2, y2, q2, rfl⟩ := ho2.form'; have HP1 := Lib.hid (Own.below HO1.out hb2); have HP2 := Lib.hid (ho2.mono HZ1.out); have HB5 := Lib.hid (Below.step HB4.out hb2); have hR := (HR1.out.below hb2); have HAP := Lib.hid (apart_of HO1.out ho2 (Nat.le_refl _)); have r0 := hR.c0; have r1 := hR.c1; have r2 := hR.free 0; have r3 := hR.free 1; have HR4 := Lib.hid hR; clear ho2 hR)))
      all_goals
        have HF := put_res HR4.out HP1.out HP2.out HAP.out HR.out.lt HB5.out
        go_wp2
        exact bodyPost_ret (results_sw _ _ (w.heap.size + 1) _ _ _ HF.out.1 rfl rfl) rfl ⟨_, _, rfl, HF.out.2.1, HF.out.2.2.1, HF.out.2.2.2.1, HF.out.2.2.2.2⟩
    · have K2 := Lib.hid (tail_more G2.out hd2); clear G2
      go_enter Try.func33, Try.ntmps33
      go_wp2_with fail
      generalize ((w.alloc (.cells #[.slice (some ⟨x1, o1, none⟩) (n1 + 1) d1, .slice (some ⟨x2, o2, none⟩) (n2 + 1) d2] 28)).alloc (.cells #[.slice none 0 0, .slice none 0 0] 28)) = W0 at *
      have p0 := HA.out.c0; have p1 := HA.out.c1
      have c0 := (HB2.out.cell hk1).trans hx1; have c1 := (HB2.out.cell hk2).trans hy1
      go_region
      have HB2 := Lib.hid (HB2.out.drew); have HA := Lib.hid (HA.out.below (Below.refl _ W0).drew); have HR := Lib.hid (HR.out.below (Below.refl _ W0).drew)
      clear p0 p1 c0 c1
      generalize W0.drew = W at *
      have p0 := HA.out.c0; have p1 := HA.out.c1
      go_wp2_with fail
      have hS : Hid (Below w.heap.size w W.drew) ∧ W.drew.cell? ⟨w.heap.size, 0, none⟩ = some (.slice (some ⟨x1, o1, none⟩) (n1 + 1) d1) ∧ W.drew.cell? ⟨w.heap.size, 1, none⟩ = some (.slice (some ⟨x2, o2, none⟩) (n2 + 1) d2) := ⟨HB2.out.drew, HA.out.c0, HA.out.c1⟩
      go_region_held3 (fun w' => Hid (Below w.heap.size w w') ∧ w'.cell? ⟨w.heap.size, 0, none⟩ = some (.slice (some ⟨x1, o1, none⟩) (n1 + 1) d1) ∧ w'.cell? ⟨w.heap.size, 1, none⟩ = some (.slice (some ⟨x2, o2, none⟩) (n2 + 1) d2))
        (first | assumption | exact s2_keep (by assumption) (by assumption) | exact s2_allocD (by assumption) _ | exact s2_alloc (by assumption) _ | exact s2_set (by assumption) _ _)
        (first
          | (go_at_call 52; ((with_reducible refine (HO.out _ _ _ K1.out T1.out.2.2 (s2_out (by assumption))).mono ?_); rintro e w1 ⟨v1, rfl, ho1, hb1⟩; obtain ⟨z1, y1, q1, rfl⟩ := ho1.form'; have HO1 := Lib.hid (ho1.mono (Nat.le_refl _ : W.heap.size ≤ W.drew.heap.size)); have HB4 := Lib.hid (Below.step HB2.out.drew hb1); have HR1 := Lib.hid ((HR.out.below (Below.refl _ W).drew).below hb1); have HZ1 := Lib.hid (show W.heap.size ≤ w1.heap.size from hb1.size); clear ho1))
          | (go_at_call 52; ((with_reducible refine (HO.out _ _ _ K2.out T2.out.2.2 (s2_out (by assumption))).mono ?_); rintro e w2 ⟨v2, rfl, ho2, hb2⟩; obtain ⟨z2, y2, q2, rfl⟩ := ho2.form'; have HP1 := Lib.hid (Own.below HO1.out hb2); have HP2 := Lib.hid (ho2.mono HZ1.out); have HB5 := Lib.hid (Below.step HB4.out hb2); have hR := (HR1.out.below hb2); have HAP := Lib.hid (apart_of HO1.out ho2 (Nat.le_refl _)); have r0 := hR.c0; have r1 := hR.c1; have r2 := hR.free 0; have r3 := hR.free 1; have HR4 := Lib.hid hR; clear ho2 hR)))
      all_goals
        have HF := put_res HR4.out HP1.out HP2.out HAP.out HR.out.lt HB5.out
        go_wp2
        exact bodyPost_ret (results_sw _ _ (w.heap.size + 1) _ _ _ HF.out.1 rfl rfl) rfl ⟨_, _, rfl, HF.out.2.1, HF.out.2.2.1, HF.out.2.2.2.1, HF.out.2.2.2.2⟩
set_option maxHeartbeats 1500000 in
theorem swStep_B (u1 u2 : Value) (t b : List Int) (w : World) (h1 : Rd w u1 t) (h2 : Rd w u2 b) (t0 : 0 < t.length) (b0 : 0 < b.length) (hl1' : t.length ≤ 20) (hl2' : b.length ≤ 20) (hxb : 1 ≤ hdI t ∧ hdI t ≤ 20) (hyb : 1 ≤ hdI b ∧ hdI b ≤ 20) (hc : hdI t = 2 * hdI b) :
    Calls Try.prog 33 #[.agg #[u1, u2]] w (MadeX w (hdI b :: t.tail) (b.tail) (letB 2)) := by
  have o1' : ∀ v (l : List Int) W, Rd w v l → l.length ≤ 1000 → Below w.heap.size w W → Calls Try.prog 52 #[v] W (Made W l) := fun v l W h hl hb => l1Own_any v l W (h.below hb) (by omega)
  have q1' : ∀ v s (l xs : List Int) W, Rd w v l → 0 < l.length → l.length ≤ 1000 → Below w.heap.size w W → Rd W s xs → xs.length ≤ 1000 → Calls Try.prog 53 #[v, s] W (Made W (xs ++ l.tail)) := fun v s l xs W h h0 hl hb hs hx => swPut_any v s l xs W (h.below hb) hs h0 hl hx
  have R1 := Lib.hid h1; have R2 := Lib.hid h2
  obtain ⟨x1, o1, d1, rfl, hl1, hm1, hc1⟩ := h1.at t0
  obtain ⟨x2, o2, d2, rfl, hl2, hm2, hc2⟩ := h2.at b0
  have hx1 := hc1 0 t0; have hy1 := hc2 0 b0
  rw [Nat.add_zero] at hx1 hy1
  have hk1 := World.block_lt_of_cell? w _ hx1; have hk2 := World.block_lt_of_cell? w _ hy1
  obtain ⟨n1, e1⟩ : ∃ n, t.length = n + 1 := ⟨t.length - 1, by omega⟩
  obtain ⟨n2, e2⟩ : ∃ n, b.length = n + 1 := ⟨b.length - 1, by omega⟩
  have G1 := Lib.hid (Rd.tail e1 hl1 hm1 hc1); have G2 := Lib.hid (Rd.tail e2 hl2 hm2 hc2)
  have T1 : Hid (t.length ≤ 1000 ∧ 0 < t.length ∧ t.tail.length ≤ 1000) := by refine ⟨by omega, by omega, ?_⟩; rw [List.length_tail]; omega
  have T2 : Hid (b.length ≤ 1000 ∧ 0 < b.length ∧ b.tail.length ≤ 1000) := by refine ⟨by omega, by omega, ?_⟩; rw [List.length_tail]; omega
  unfold maxLen at hm1 hm2
  rw [e1] at hl1 R1 ⊢; rw [e2] at hl2 R2 ⊢
  have HO := Lib.hid o1'; have HQ := Lib.hid q1'
  have HB2 := Lib.hid (below2 w (.cells #[.slice (some ⟨x1, o1, none⟩) (n1 + 1) d1, .slice (some ⟨x2, o2, none⟩) (n2 + 1) d2] 28) (.cells #[.slice none 0 0, .slice none 0 0] 28))
  have HA := Lib.hid (Box2.below (Box2.new 28 w (.slice (some ⟨x1, o1, none⟩) (n1 + 1) d1) (.slice (some ⟨x2, o2, none⟩) (n2 + 1) d2)) (Below.alloc1 _ (.cells #[.slice none 0 0, .slice none 0 0] 28)))
  have HR := Lib.hid (Box2.at1 28 w (.cells #[.slice (some ⟨x1, o1, none⟩) (n1 + 1) d1, .slice (some ⟨x2, o2, none⟩) (n2 + 1) d2] 28) (.slice none 0 0) (.slice none 0 0))
  clear h1 h2 hc1 hc2 o1' q1' hl1' hl2' t0 b0
  have hx1' : w.cell? ⟨x1, o1, none⟩ = some (.int .i64 (hdI t)) := hx1; clear hx1; have hx1 := hx1'; clear hx1'
  have hy1' : w.cell? ⟨x2, o2, none⟩ = some (.int .i64 (hdI b)) := hy1; clear hy1; have hy1 := hy1'; clear hy1'
  generalize hdI t = x at *
  generalize hdI b = y at *
  have i1 : (1 : Int) ≤ (n1 : Int) + 1 := by omega
  have i2 : (n1 : Int) + 1 ≤ (d1 : Int) := by omega
  have i3 : (1 : Int) ≤ (d1 : Int) := by omega
  have i4 : (0 : Int) ≤ (n1 : Int) + 1 := by omega
  have i5 : (0 : Int) ≤ (d1 : Int) := by omega
  have i6 : (1 : Int) ≤ (n2 : Int) + 1 := by omega
  have i7 : (n2 : Int) + 1 ≤ (d2 : Int) := by omega
  have i8 : (1 : Int) ≤ (d2 : Int) := by omega
  have i9 : (0 : Int) ≤ (n2 : Int) + 1 := by omega
  have i10 : (0 : Int) ≤ (d2 : Int) := by omega
  by_cases hd2 : d2 = 1
  · have K2 := Lib.hid (tail_one G2.out hd2); clear G2
    obtain rfl : n2 = 0 := by omega
    subst hd2
    simp only [Nat.zero_add] at HB2 HA HR R2 ⊢
    go_enter Try.func33, Try.ntmps33
    go_wp2_with fail
    generalize ((w.alloc (.cells #[.slice (some ⟨x1, o1, none⟩) (n1 + 1) d1, .slice (some ⟨x2, o2, none⟩) 1 1] 28)).alloc (.cells #[.slice none 0 0, .slice none 0 0] 28)) = W0 at *
    have p0 := HA.out.c0; have p1 := HA.out.c1
    have c0 := (HB2.out.cell hk1).trans hx1; have c1 := (HB2.out.cell hk2).trans hy1
    go_region
    have HB2 := Lib.hid (HB2.out.drew); have HA := Lib.hid (HA.out.below (Below.refl _ W0).drew); have HR := Lib.hid (HR.out.below (Below.refl _ W0).drew)
    clear p0 p1 c0 c1
    generalize W0.drew = W at *
    have p0 := HA.out.c0; have p1 := HA.out.c1
    have j1 : IntKind.i64.wrap (2 * y) = 2 * y := IntWalk.i64_in _ (by omega)
    go_wp2_with fail
    have hS : Hid (Below w.heap.size w W.drew) ∧ W.drew.cell? ⟨w.heap.size, 0, none⟩ = some (.slice (some ⟨x1, o1, none⟩) (n1 + 1) d1) ∧ W.drew.cell? ⟨w.heap.size, 1, none⟩ = some (.slice (some ⟨x2, o2, none⟩) 1 1) := ⟨HB2.out.drew, HA.out.c0, HA.out.c1⟩
    go_region_held3 (fun w' => Hid (Below w.heap.size w w') ∧ w'.cell? ⟨w.heap.size, 0, none⟩ = some (.slice (some ⟨x1, o1, none⟩) (n1 + 1) d1) ∧ w'.cell? ⟨w.heap.size, 1, none⟩ = some (.slice (some ⟨x2, o2, none⟩) 1 1))
      (first | assumption | exact s2_keep (by assumption) (by assumption) | exact s2_allocD (by assumption) _ | exact s2_alloc (by assumption) _ | exact s2_set (by assumption) _ _)
      (first
        | (go_at_call 53; ((with_reducible refine (HQ.out _ _ _ [y] _ R1.out T1.out.2.1 T1.out.1 (s2_out (by assumption)) (litD1 W y) (Nat.le_of_ble_eq_true rfl)).mono ?_); rintro e w1 ⟨v1, rfl, ho1, hb1⟩; obtain ⟨z1, y1, q1, rfl⟩ := ho1.form'; have HO1 := Lib.hid (Own.upD ho1); have HB4 := Lib.hid (Below.upD HB2.out hb1); have HR1 := Lib.hid (Box2.upD HR.out hb1); have HZ1 := Lib.hid (size_upD hb1); clear ho1))
        | (go_at_call 52; ((with_reducible refine (HO.out _ _ _ K2.out T2.out.2.2 (s2_out (by assumption))).mono ?_); rintro e w2 ⟨v2, rfl, ho2, hb2⟩; obtain ⟨z2, y2, q2, rfl⟩ := ho2.form'; have HP1 := Lib.hid (Own.below HO1.out hb2); have HP2 := Lib.hid (ho2.mono HZ1.out); have HB5 := Lib.hid (Below.step HB4.out hb2); have hR := (HR1.out.below hb2); have HAP := Lib.hid (apart_of HO1.out ho2 (Nat.le_refl _)); have r0 := hR.c0; have r1 := hR.c1; have r2 := hR.free 0; have r3 := hR.free 1; have HR4 := Lib.hid hR; clear ho2 hR)))
    all_goals
      have HF := put_res HR4.out HP1.out HP2.out HAP.out HR.out.lt HB5.out
      go_wp2
      exact bodyPost_ret (results_sw _ _ (w.heap.size + 1) _ _ _ HF.out.1 rfl rfl) rfl ⟨_, _, rfl, HF.out.2.1, HF.out.2.2.1, HF.out.2.2.2.1, HF.out.2.2.2.2⟩
  · have K2 := Lib.hid (tail_more G2.out hd2); clear G2
    go_enter Try.func33, Try.ntmps33
    go_wp2_with fail
    generalize ((w.alloc (.cells #[.slice (some ⟨x1, o1, none⟩) (n1 + 1) d1, .slice (some ⟨x2, o2, none⟩) (n2 + 1) d2] 28)).alloc (.cells #[.slice none 0 0, .slice none 0 0] 28)) = W0 at *
    have p0 := HA.out.c0; have p1 := HA.out.c1
    have c0 := (HB2.out.cell hk1).trans hx1; have c1 := (HB2.out.cell hk2).trans hy1
    go_region
    have HB2 := Lib.hid (HB2.out.drew); have HA := Lib.hid (HA.out.below (Below.refl _ W0).drew); have HR := Lib.hid (HR.out.below (Below.refl _ W0).drew)
    clear p0 p1 c0 c1
    generalize W0.drew = W at *
    have p0 := HA.out.c0; have p1 := HA.out.c1
    have j1 : IntKind.i64.wrap (2 * y) = 2 * y := IntWalk.i64_in _ (by omega)
    go_wp2_with fail
    have hS : Hid (Below w.heap.size w W.drew) ∧ W.drew.cell? ⟨w.heap.size, 0, none⟩ = some (.slice (some ⟨x1, o1, none⟩) (n1 + 1) d1) ∧ W.drew.cell? ⟨w.heap.size, 1, none⟩ = some (.slice (some ⟨x2, o2, none⟩) (n2 + 1) d2) := ⟨HB2.out.drew, HA.out.c0, HA.out.c1⟩
    go_region_held3 (fun w' => Hid (Below w.heap.size w w') ∧ w'.cell? ⟨w.heap.size, 0, none⟩ = some (.slice (some ⟨x1, o1, none⟩) (n1 + 1) d1) ∧ w'.cell? ⟨w.heap.size, 1, none⟩ = some (.slice (some ⟨x2, o2, none⟩) (n2 + 1) d2))
      (first | assumption | exact s2_keep (by assumption) (by assumption) | exact s2_allocD (by assumption) _ | exact s2_alloc (by assumption) _ | exact s2_set (by assumption) _ _)
      (first
        | (go_at_call 53; ((with_reducible refine (HQ.out _ _ _ [y] _ R1.out T1.out.2.1 T1.out.1 (s2_out (by assumption)) (litD1 W y) (Nat.le_of_ble_eq_true rfl)).mono ?_); rintro e w1 ⟨v1, rfl, ho1, hb1⟩; obtain ⟨z1, y1, q1, rfl⟩ := ho1.form'; have HO1 := Lib.hid (Own.upD ho1); have HB4 := Lib.hid (Below.upD HB2.out hb1); have HR1 := Lib.hid (Box2.upD HR.out hb1); have HZ1 := Lib.hid (size_upD hb1); clear ho1))
        | (go_at_call 52; ((with_reducible refine (HO.out _ _ _ K2.out T2.out.2.2 (s2_out (by assumption))).mono ?_); rintro e w2 ⟨v2, rfl, ho2, hb2⟩; obtain ⟨z2, y2, q2, rfl⟩ := ho2.form'; have HP1 := Lib.hid (Own.below HO1.out hb2); have HP2 := Lib.hid (ho2.mono HZ1.out); have HB5 := Lib.hid (Below.step HB4.out hb2); have hR := (HR1.out.below hb2); have HAP := Lib.hid (apart_of HO1.out ho2 (Nat.le_refl _)); have r0 := hR.c0; have r1 := hR.c1; have r2 := hR.free 0; have r3 := hR.free 1; have HR4 := Lib.hid hR; clear ho2 hR)))
    all_goals
      have HF := put_res HR4.out HP1.out HP2.out HAP.out HR.out.lt HB5.out
      go_wp2
      exact bodyPost_ret (results_sw _ _ (w.heap.size + 1) _ _ _ HF.out.1 rfl rfl) rfl ⟨_, _, rfl, HF.out.2.1, HF.out.2.2.1, HF.out.2.2.2.1, HF.out.2.2.2.2⟩
end Go.Proofs.Ytllhdmpnjcemkab
