/- Pairs drawn. -/
import Derived.Test.YtbinpefogecgmabDrawC
import Derived.Test.YtbinpefogecgmabMeander
import Derived.Test.YtbinpefogecgmabRain
import Derived.Test.YtbinpefogecgmabPairText
namespace Go.Proofs.Ytbinpefogecgmab
open Go.RowKit
set_option linter.unusedSimpArgs false
set_option linter.unusedVariables false

theorem own_box {T : TypeId} (hT : (T : TypeId) ≠ 3) {B b : Nat} {w : World} {v v1 v2 : Value} {l : List Int} (h : Own B w v l) (hb : Box2 T w b v1 v2) : v.ownBlock ≠ some b := by
  rcases h.2 with ⟨rfl, _⟩ | ⟨g, cap, cur, rfl, _, hg, _⟩
  · simp [Value.ownBlock]
  · intro e
    have e' : g = b := by simpa [Value.ownBlock] using e
    subst e'
    unfold Box2 at hb
    rw [hb] at hg
    simp at hg
    exact hT hg.2
theorem mea_not : (26 : TypeId) ≠ 3 := by decide
/-- two lists drawn, in a struct -/
def DrewM (w : World) (g : Nat) (v : Value) (M K : Nat) (e : Ending) (w' : World) : Prop := ∃ (u1 u2 : Value) (l1 l2 : List Int), e = .returned (.agg #[u1, u2]) ∧ Own w.heap.size w' u1 l1 ∧ Own w.heap.size w' u2 l2 ∧ l1.length ≤ K ∧ l2.length ≤ K ∧ CurOut w g v M w'
/-- a box of the call's own, and two lists in another one -/
structure PS (w : World) (g : Nat) (v : Value) (M bR bm : Nat) (u1 u2 : Value) (l1 l2 : List Int) (wx : World) : Prop where
  gl : g < w.heap.size
  cur : CurOut w g v M wx
  hR : w.heap.size ≤ bR
  hm : bR < bm
  r : Box2 26 wx bR (.slice none 0 0) (.slice none 0 0)
  m : Box2 26 wx bm u1 u2
  o1 : Own w.heap.size wx u1 l1
  o2 : Own w.heap.size wx u2 l2
theorem PS.mono {w wx : World} {g M M' bR bm : Nat} {v u1 u2 : Value} {l1 l2 : List Int} (h : PS w g v M bR bm u1 u2 l1 l2 wx) (hM : M ≤ M') : PS w g v M' bR bm u1 u2 l1 l2 wx := ⟨h.gl, h.cur.mono hM, h.hR, h.hm, h.r, h.m, h.o1, h.o2⟩
theorem PS.cut {w wx wy : World} {g M M' bR bm : Nat} {v u1 u2 : Value} {l1 l2 : List Int} (h : PS w g v M bR bm u1 u2 l1 l2 wx) (hc : CurOut wx g v M' wy) : PS w g v M' bR bm u1 u2 l1 l2 wy := by
  have h1 := h.gl; have h2 := h.hR; have h3 := h.hm
  exact ⟨h.gl, h.cur.trans hc, h.hR, h.hm, h.r.grown hc.2 (fun e => by simp at e; omega), h.m.grown hc.2 (fun e => by simp at e; omega), hc.own h.o1 h.gl, hc.own h.o2 h.gl⟩
theorem PS.below {w wx wy : World} {g M bR bm : Nat} {v u1 u2 : Value} {l1 l2 : List Int} (h : PS w g v M bR bm u1 u2 l1 l2 wx) (hb : Below wx.heap.size wx wy) : PS w g v M bR bm u1 u2 l1 l2 wy :=
  ⟨h.gl, h.cur.below hb, h.hR, h.hm, h.r.below hb, h.m.below hb, h.o1.below hb, h.o2.below hb⟩
theorem Own.setBox {T : TypeId} (hT : (T : TypeId) ≠ 3) {B b i : Nat} {w : World} {v v1 v2 x : Value} {l : List Int} (h : Own B w v l) (hb : Box2 T w b v1 v2) : Own B (w.setCell ⟨b, i, none⟩ x) v l :=
  h.grown (grown_setCell (w := w) (b := b) (i := i) (v := x)) (fun k hk e => own_box hT h hb (by rw [hk, e]))
theorem PS.put0 {w wx : World} {g M bR bm : Nat} {v u1 u2 u3 : Value} {l1 l2 l3 : List Int} (h : PS w g v M bR bm u1 u2 l1 l2 wx) (h3 : Own w.heap.size wx u3 l3) : PS w g v M bR bm u3 u2 l3 l2 (wx.setCell ⟨bm, 0, none⟩ u3) := by
  have k1 := h.gl; have k2 := h.hR; have k3 := h.hm
  exact ⟨h.gl, h.cur.wrote grown_setCell (fun k hk => by simp at hk; omega) h.gl, h.hR, h.hm, h.r.grown grown_setCell (by simp; omega), h.m.set0 u3, Own.setBox mea_not h3 h.m, Own.setBox mea_not h.o2 h.m⟩
theorem PS.put1 {w wx : World} {g M bR bm : Nat} {v u1 u2 u3 : Value} {l1 l2 l3 : List Int} (h : PS w g v M bR bm u1 u2 l1 l2 wx) (h3 : Own w.heap.size wx u3 l3) : PS w g v M bR bm u1 u3 l1 l3 (wx.setCell ⟨bm, 1, none⟩ u3) := by
  have k1 := h.gl; have k2 := h.hR; have k3 := h.hm
  exact ⟨h.gl, h.cur.wrote grown_setCell (fun k hk => by simp at hk; omega) h.gl, h.hR, h.hm, h.r.grown grown_setCell (by simp; omega), h.m.set1 u3, Own.setBox mea_not h.o1 h.m, Own.setBox mea_not h3 h.m⟩
theorem PS.endbox {w wx : World} {g M bR bm : Nat} {v u1 u2 : Value} {l1 l2 : List Int} (h : PS w g v M bR bm u1 u2 l1 l2 wx) : Box2 26 ((wx.setCell ⟨bR, 0, none⟩ u1).setCell ⟨bR, 1, none⟩ u2) bR u1 u2 := (h.r.set0 u1).set1 u2
theorem PS.done {w wx : World} {g M bR bm K : Nat} {v u1 u2 : Value} {l1 l2 : List Int} (h : PS w g v M bR bm u1 u2 l1 l2 wx) (k1 : l1.length ≤ K) (k2 : l2.length ≤ K) : DrewM w g v M K (.returned (.agg #[u1, u2])) ((wx.setCell ⟨bR, 0, none⟩ u1).setCell ⟨bR, 1, none⟩ u2) := by
  have c := (h.cur.wrote (grown_setCell (b := bR) (i := 0) (v := u1)) (fun k hk => by simp at hk; have := h.hR; omega) h.gl).wrote (grown_setCell (b := bR) (i := 1) (v := u2)) (fun k hk => by simp at hk; have := h.hR; omega) h.gl
  exact ⟨u1, u2, l1, l2, rfl, Own.setBox mea_not (Own.setBox mea_not h.o1 h.r) (h.r.set0 u1), Own.setBox mea_not (Own.setBox mea_not h.o2 h.r) (h.r.set0 u1), k1, k2, c⟩
theorem results_dpair (tmps : Array Value) (w : World) (g : Nat) (v1 v2 : Value) (hg : Box2 26 w g v1 v2) (h2 : tmps.getD 4 undef = .pointer (some ⟨g, 0, none⟩)) :
    (results Try.f58 tmps).run Try.prog w = .ok (.agg #[v1, v2]) w :=
  results_cell_row (by kernel_rfl) tmps w g _ #[v1, v2] _ _ h2 hg Try.underlying26 rfl (by rw [mea_info]; rfl)
set_option maxHeartbeats 8000000 in
set_option maxRecDepth 100000 in
theorem pair_any (g M m : Nat) (v : Value) (l : List Int) (w : World) (h : CurC w g v M) (hr : RdY w v l) (hM : M ≤ 600000) (hm : m ≤ 6) :
    Calls Try.prog 58 #[.pointer (some ⟨g, 0, none⟩), .int .i64 (m : Int)] w (DrewM w g v (M + 102) 14) := by
  have hgl := h.lt
  have HPK := Lib.hid (fun (K : Nat) (n : Int) (w1 : World) (ho : CurOut w g v K w1) (hK : K ≤ 800000) (hn : n ≤ 1000) => pick_any g K n v l w1 ho.1 (CurOut.rd hr h ho) (by omega) (by omega))
  have HSU := Lib.hid (fun (K n : Nat) (w1 : World) (ho : CurOut w g v K w1) (hK : K ≤ 700000) (hn : n ≤ 6) => sure_any g K n v l w1 ho.1 (CurOut.rd hr h ho) (by omega) (by omega))
  have HSY := Lib.hid (fun (K : Nat) (w1 : World) (ho : CurOut w g v K w1) (hK : K ≤ 700000) => system_any g K m v l w1 ho.1 (CurOut.rd hr h ho) (by omega) hm)
  have hw1 : IntKind.i64.wrap ((m : Int) + 1) = (m : Int) + 1 := IntWalk.i64_in _ (by omega)
  have HO := Lib.hid (CurOut.below (CurOut.refl (k := 0) h) (Below.alloc1 w (.cells #[.slice none 0 0, .slice none 0 0] 26)))
  have HB := Lib.hid (Box2.new 26 w (.slice none 0 0) (.slice none 0 0))
  clear h hr
  go_enter Try.func58, Try.ntmps58
  go_wp2_with fail
  refine (HPK.out _ _ _ HO.out (by omega) (by omega)).mono ?_
  rintro e w1 ⟨x, rfl, ⟨hx0, hx1⟩, ho1⟩
  obtain ⟨n, rfl⟩ := Int.eq_ofNat_of_zero_le hx0
  have hn6 : n ≤ 6 := by rcases hx1 with hx1 | hx1 <;> omega
  have HO1 := Lib.hid (HO.out.trans ho1)
  have HB1 := Lib.hid (HB.out.grown ho1.2 (fun e => by simp at e; omega))
  clear hx0 hx1 ho1 HO HB
  go_wp2_with fail
  refine (HSU.out _ n w1 HO1.out (by omega) hn6).mono ?_
  rintro e w2 ⟨u1, l1, rfl, hq, hl1, ho2⟩
  obtain ⟨p1, p2, p3, rfl⟩ := hq.form'
  have HO2 := Lib.hid (HO1.out.trans ho2)
  have HB2 := Lib.hid (HB1.out.grown ho2.2 (fun e => by simp at e; omega))
  have HQ2 := Lib.hid (hq.mono HO1.out.2.size)
  clear ho2 hq HO1 HB1
  go_wp2_with fail
  refine (HSU.out _ n w2 HO2.out (by omega) hn6).mono ?_
  rintro e w3 ⟨u2, l2, rfl, hq, hl2, ho3⟩
  obtain ⟨q1, q2, q3, rfl⟩ := hq.form'
  have HO3 := Lib.hid (HO2.out.trans ho3)
  have HS0 : Hid (w.heap.size < w3.heap.size) := (by have h1 := (HB2.out.grown ho3.2 (fun e => by simp at e; omega)).lt; exact h1)
  have HP : Hid (PS w g v (M + 60) w.heap.size w3.heap.size (.slice p1 p2 p3) (.slice q1 q2 q3) l1 l2 (w3.alloc (.cells #[.slice p1 p2 p3, .slice q1 q2 q3] 26))) :=
    ⟨hgl, CurOut.below (CurOut.mono HO3.out (by omega)) (Below.alloc1 _ _), Nat.le_refl _, HS0.out, (HB2.out.grown ho3.2 (fun e => by simp at e; omega)).below (Below.alloc1 _ _), Box2.new _ _ _ _, (CurOut.own ho3 HQ2.out hgl).below (Below.alloc1 _ _), (hq.mono HO2.out.2.size).below (Below.alloc1 _ _)⟩
  clear ho3 hq HO2 HB2 HQ2 HO3 HS0
  go_wp2_with fail
  refine (HPK.out _ 16 _ HP.out.cur (by omega) (by omega)).mono ?_
  rintro e w4 ⟨d, rfl, ⟨hd0, hd1⟩, ho4⟩
  replace HP := Lib.hid ((HP.out.cut ho4).mono (show M + 60 + 2 ≤ M + 62 by omega))
  have hd : d = 0 ∨ d = 1 ∨ d = 2 ∨ d = 3 ∨ (d ≠ 0 ∧ d ≠ 1 ∧ d ≠ 2 ∧ d ≠ 3) := by omega
  clear hd0 hd1 ho4
  rcases hd with rfl | rfl | rfl | rfl | ⟨n0, n1, n2, n3⟩
  · go_wp2_with fail
    refine (HSY.out _ w4 HP.out.cur (by omega)).mono ?_
    rintro e w5 ⟨u3, l3, rfl, hq, hl3, ho5⟩
    obtain ⟨r1, r2, r3, rfl⟩ := hq.form'
    have HP5 := Lib.hid (HP.out.cut ho5)
    have HQ := Lib.hid (hq.mono HP.out.cur.2.size)
    have HP6 := Lib.hid (HP5.out.put0 HQ.out)
    have m0 := HP5.out.m.c0; have m1 := HP5.out.m.c1; have m2 := HP5.out.m.free 0
    have r2' := HP6.out.r.c0; have r3' := HP6.out.r.c1; have r4' := HP6.out.r.free 0; have r5' := HP6.out.r.free 1; have m0' := HP6.out.m.c0; have m1' := HP6.out.m.c1
    clear ho5 hq
    go_wp2_with fail
    refine bodyPost_ret (results_dpair _ _ _ _ _ HP6.out.endbox rfl) rfl ((HP6.out.mono (by omega)).done (by omega) (by omega))
  · go_wp2_with fail
    refine (HSY.out _ w4 HP.out.cur (by omega)).mono ?_
    rintro e w5 ⟨u3, l3, rfl, hq, hl3, ho5⟩
    obtain ⟨r1, r2, r3, rfl⟩ := hq.form'
    have HP5 := Lib.hid (HP.out.cut ho5)
    have HQ := Lib.hid (hq.mono HP.out.cur.2.size)
    have HP6 := Lib.hid (HP5.out.put1 HQ.out)
    have m0 := HP5.out.m.c0; have m1 := HP5.out.m.c1; have m2 := HP5.out.m.free 1
    have r2' := HP6.out.r.c0; have r3' := HP6.out.r.c1; have r4' := HP6.out.r.free 0; have r5' := HP6.out.r.free 1; have m0' := HP6.out.m.c0; have m1' := HP6.out.m.c1
    clear ho5 hq
    go_wp2_with fail
    refine bodyPost_ret (results_dpair _ _ _ _ _ HP6.out.endbox rfl) rfl ((HP6.out.mono (by omega)).done (by omega) (by omega))
  · go_wp2_with fail
    refine (ahRainbow_any n hn6 _).mono ?_
    rintro e w5 ⟨u3, rfl, hq3, hb5⟩
    obtain ⟨r1, r2, r3, rfl⟩ := hq3.form'
    have HP5 := Lib.hid (HP.out.below hb5)
    have HQ3 := Lib.hid (hq3.mono HP.out.cur.2.size)
    clear hb5 hq3
    go_wp2_with fail
    refine (ahFlat_upto n (by omega) _).mono ?_
    rintro e w6 ⟨u4, rfl, hq4, hb6⟩
    obtain ⟨s1, s2, s3, rfl⟩ := hq4.form'
    have HP6 := Lib.hid (HP5.out.below hb6)
    have HQ3' := Lib.hid (HQ3.out.below hb6)
    have HQ4 := Lib.hid (hq4.mono HP5.out.cur.2.size)
    have HP7 := Lib.hid (HP6.out.put0 HQ3'.out)
    have HP8 := Lib.hid (HP7.out.put1 (Own.setBox mea_not HQ4.out HP6.out.m))
    have m0 := HP6.out.m.c0; have m1 := HP6.out.m.c1; have m2 := HP6.out.m.free 0; have m3 := HP6.out.m.free 1
    have m4 := HP7.out.m.c0; have m5 := HP7.out.m.c1; have m6 := HP7.out.m.free 0; have m7 := HP7.out.m.free 1
    have r2' := HP8.out.r.c0; have r3' := HP8.out.r.c1; have r4' := HP8.out.r.free 0; have r5' := HP8.out.r.free 1; have m0' := HP8.out.m.c0; have m1' := HP8.out.m.c1
    clear hb6 hq4
    have HLF : Hid ((rainbow n).length ≤ 14 ∧ (flats n).length ≤ 14) := by have := rainbow_len n; have := flats_length n; unfold Hid; omega
    go_wp2_with fail
    refine bodyPost_ret (results_dpair _ _ _ _ _ HP8.out.endbox rfl) rfl ((HP8.out.mono (by omega)).done HLF.out.1 HLF.out.2)
  · have m0 := HP.out.m.c0; have m1 := HP.out.m.c1
    go_wp2_with fail
    refine (l1Own_any _ l1 _ HP.out.o1.rd (by omega)).mono ?_
    rintro e w5 ⟨u3, rfl, hq, hb5⟩
    obtain ⟨r1, r2, r3, rfl⟩ := hq.form'
    have HP5 := Lib.hid (HP.out.below hb5)
    have HQ := Lib.hid (hq.mono HP.out.cur.2.size)
    have HP6 := Lib.hid (HP5.out.put1 HQ.out)
    clear m0 m1
    have m0 := HP5.out.m.c0; have m1 := HP5.out.m.c1; have m2 := HP5.out.m.free 1
    have r2' := HP6.out.r.c0; have r3' := HP6.out.r.c1; have r4' := HP6.out.r.free 0; have r5' := HP6.out.r.free 1; have m0' := HP6.out.m.c0; have m1' := HP6.out.m.c1
    clear hb5 hq
    go_wp2_with fail
    refine bodyPost_ret (results_dpair _ _ _ _ _ HP6.out.endbox rfl) rfl ((HP6.out.mono (by omega)).done (by omega) (by omega))
  · have k0 : (d == 0) = false := beq_eq_false_iff_ne.2 n0
    have k1 : (d == 1) = false := beq_eq_false_iff_ne.2 n1
    have k2 : (d == 2) = false := beq_eq_false_iff_ne.2 n2
    have k3 : (d == 3) = false := beq_eq_false_iff_ne.2 n3
    clear n0 n1 n2 n3
    have e0 := HP.out.m.c0; have e1 := HP.out.m.c1; have e2 := HP.out.r.c0; have e3 := HP.out.r.c1; have e4 := HP.out.r.free 0; have e5 := HP.out.r.free 1
    go_wp2_with fail
    refine bodyPost_ret (results_dpair _ _ _ _ _ HP.out.endbox rfl) rfl ((HP.out.mono (by omega)).done (by omega) (by omega))

def DrawnM (w : World) (K : Nat) (e : Ending) (w' : World) : Prop := ∃ (u1 u2 : Value) (l1 l2 : List Int), e = .returned (.agg #[u1, u2]) ∧ Own w.heap.size w' u1 l1 ∧ Own w.heap.size w' u2 l2 ∧ l1.length ≤ K ∧ l2.length ≤ K ∧ Below w.heap.size w w'
def DrawnMI (w : World) (K : Nat) (P : Int → Prop) (e : Ending) (w' : World) : Prop := ∃ (u1 u2 : Value) (l1 l2 : List Int) (x : Int), e = .returned (.tuple #[.agg #[u1, u2], .int .i64 x]) ∧ Own w.heap.size w' u1 l1 ∧ Own w.heap.size w' u2 l2 ∧ l1.length ≤ K ∧ l2.length ≤ K ∧ P x ∧ Below w.heap.size w w'
def DrawnMM (w : World) (K : Nat) (e : Ending) (w' : World) : Prop := ∃ (u1 u2 u3 u4 : Value) (l1 l2 l3 l4 : List Int), e = .returned (.tuple #[.agg #[u1, u2], .agg #[u3, u4]]) ∧ Own w.heap.size w' u1 l1 ∧ Own w.heap.size w' u2 l2 ∧ Own w.heap.size w' u3 l3 ∧ Own w.heap.size w' u4 l4 ∧ l1.length ≤ K ∧ l2.length ≤ K ∧ l3.length ≤ K ∧ l4.length ≤ K ∧ Below w.heap.size w w'
theorem cur_new1 (w : World) (o : Obj) (v : Value) : CurC ((w.alloc o).alloc (.cells #[v, .int .i64 0, .int .u64 0] 64)) (w.heap.size + 1) v 0 := by
  have h := cur_new (w.alloc o) v; rwa [World.size_alloc] at h
theorem cur_new2 (w : World) (o o2 : Obj) (v : Value) : CurC (((w.alloc o).alloc o2).alloc (.cells #[v, .int .i64 0, .int .u64 0] 64)) (w.heap.size + 1 + 1) v 0 := by
  have h := cur_new ((w.alloc o).alloc o2) v; rwa [World.size_alloc, World.size_alloc] at h
theorem toBelow1 {w w' : World} {o o2 : Obj} {v : Value} {M : Nat} (h : CurOut ((w.alloc o).alloc o2) (w.heap.size + 1) v M w') : Below w.heap.size w w' := by
  have h' : CurOut ((w.alloc o).alloc o2) (w.alloc o).heap.size v M w' := by rw [World.size_alloc]; exact h
  exact Below.step (Below.alloc1 w o) h'.toBelow
theorem toBelow2 {w w' : World} {o o2 o3 : Obj} {v : Value} {M : Nat} (h : CurOut (((w.alloc o).alloc o2).alloc o3) (w.heap.size + 1 + 1) v M w') : Below w.heap.size w w' := by
  have h' : CurOut (((w.alloc o).alloc o2).alloc o3) ((w.alloc o).alloc o2).heap.size v M w' := by rw [World.size_alloc, World.size_alloc]; exact h
  exact Below.step (Below.step (Below.alloc1 w o) (Below.alloc1 _ o2)) h'.toBelow
theorem set2_own {w w' : World} {B : Nat} {b : Nat} {u v x y u1 u2 : Value} {ls : List Int} (h : Own B w v ls) (hr : Box2 26 w b u1 u2) : Own B ((w.setCell ⟨b, 0, none⟩ x).setCell ⟨b, 1, none⟩ y) v ls :=
  Own.setBox mea_not (Own.setBox mea_not h hr) (hr.set0 x)
theorem set2_below {w w' : World} {b : Nat} {x y : Value} (h : Below w.heap.size w w') (hb : w.heap.size ≤ b) : Below w.heap.size w ((w'.setCell ⟨b, 0, none⟩ x).setCell ⟨b, 1, none⟩ y) := (h.setCell (p := ⟨b, 0, none⟩) hb x).setCell (p := ⟨b, 1, none⟩) hb y
theorem drawnM_end {w w' : World} {o2 : Obj} {v u1 u2 : Value} {l1 l2 : List Int} {M K : Nat} (h : CurOut ((w.alloc (.cells #[.slice none 0 0, .slice none 0 0] 26)).alloc o2) (w.heap.size + 1) v M w')
    (hr : Box2 26 w' w.heap.size (.slice none 0 0) (.slice none 0 0)) (h1 : Own (w.heap.size + 1 + 1) w' u1 l1) (h2 : Own (w.heap.size + 1 + 1) w' u2 l2) (k1 : l1.length ≤ K) (k2 : l2.length ≤ K) :
    DrawnM w K (.returned (.agg #[u1, u2])) ((w'.setCell ⟨w.heap.size, 0, none⟩ u1).setCell ⟨w.heap.size, 1, none⟩ u2) :=
  ⟨u1, u2, l1, l2, rfl, (set2_own (w' := w') (u := u1) h1 hr).mono (by omega), (set2_own (w' := w') (u := u1) h2 hr).mono (by omega), k1, k2, set2_below (toBelow1 h) (Nat.le_refl _)⟩
theorem drawnMI_end {w w' : World} {o2 : Obj} {v u1 u2 : Value} {l1 l2 : List Int} {M K : Nat} {P : Int → Prop} {x : Int} (h : CurOut ((w.alloc (.cells #[.slice none 0 0, .slice none 0 0] 26)).alloc o2) (w.heap.size + 1) v M w')
    (hr : Box2 26 w' w.heap.size (.slice none 0 0) (.slice none 0 0)) (h1 : Own (w.heap.size + 1 + 1) w' u1 l1) (h2 : Own (w.heap.size + 1 + 1) w' u2 l2) (k1 : l1.length ≤ K) (k2 : l2.length ≤ K) (hx : P x) :
    DrawnMI w K P (.returned (.tuple #[.agg #[u1, u2], .int .i64 x])) ((w'.setCell ⟨w.heap.size, 0, none⟩ u1).setCell ⟨w.heap.size, 1, none⟩ u2) :=
  ⟨u1, u2, l1, l2, x, rfl, (set2_own (w' := w') (u := u1) h1 hr).mono (by omega), (set2_own (w' := w') (u := u1) h2 hr).mono (by omega), k1, k2, hx, set2_below (toBelow1 h) (Nat.le_refl _)⟩
theorem drawnMM_end {w w' : World} {o3 : Obj} {v u1 u2 u3 u4 : Value} {l1 l2 l3 l4 : List Int} {M K : Nat} (h : CurOut (((w.alloc (.cells #[.slice none 0 0, .slice none 0 0] 26)).alloc (.cells #[.slice none 0 0, .slice none 0 0] 26)).alloc o3) (w.heap.size + 1 + 1) v M w')
    (hr : Box2 26 w' w.heap.size (.slice none 0 0) (.slice none 0 0)) (hs : Box2 26 w' (w.heap.size + 1) (.slice none 0 0) (.slice none 0 0))
    (h1 : Own (w.heap.size + 1 + 1 + 1) w' u1 l1) (h2 : Own (w.heap.size + 1 + 1 + 1) w' u2 l2) (h3 : Own (w.heap.size + 1 + 1 + 1) w' u3 l3) (h4 : Own (w.heap.size + 1 + 1 + 1) w' u4 l4) (k1 : l1.length ≤ K) (k2 : l2.length ≤ K) (k3 : l3.length ≤ K) (k4 : l4.length ≤ K) :
    Box2 26 ((w'.setCell ⟨w.heap.size, 0, none⟩ u1).setCell ⟨w.heap.size, 1, none⟩ u2) (w.heap.size + 1) (.slice none 0 0) (.slice none 0 0) ∧
    Box2 26 ((((w'.setCell ⟨w.heap.size, 0, none⟩ u1).setCell ⟨w.heap.size, 1, none⟩ u2).setCell ⟨w.heap.size + 1, 0, none⟩ u3).setCell ⟨w.heap.size + 1, 1, none⟩ u4) w.heap.size u1 u2 ∧
    Box2 26 ((((w'.setCell ⟨w.heap.size, 0, none⟩ u1).setCell ⟨w.heap.size, 1, none⟩ u2).setCell ⟨w.heap.size + 1, 0, none⟩ u3).setCell ⟨w.heap.size + 1, 1, none⟩ u4) (w.heap.size + 1) u3 u4 ∧
    DrawnMM w K (.returned (.tuple #[.agg #[u1, u2], .agg #[u3, u4]])) ((((w'.setCell ⟨w.heap.size, 0, none⟩ u1).setCell ⟨w.heap.size, 1, none⟩ u2).setCell ⟨w.heap.size + 1, 0, none⟩ u3).setCell ⟨w.heap.size + 1, 1, none⟩ u4) := by
  have s1 : Box2 26 ((w'.setCell ⟨w.heap.size, 0, none⟩ u1).setCell ⟨w.heap.size, 1, none⟩ u2) (w.heap.size + 1) (.slice none 0 0) (.slice none 0 0) := (hs.grown grown_setCell (by simp)).grown grown_setCell (by simp)
  have r1 : Box2 26 ((w'.setCell ⟨w.heap.size, 0, none⟩ u1).setCell ⟨w.heap.size, 1, none⟩ u2) w.heap.size u1 u2 := (hr.set0 u1).set1 u2
  have o : ∀ {v l}, Own (w.heap.size + 1 + 1 + 1) w' v l → Own w.heap.size ((((w'.setCell ⟨w.heap.size, 0, none⟩ u1).setCell ⟨w.heap.size, 1, none⟩ u2).setCell ⟨w.heap.size + 1, 0, none⟩ u3).setCell ⟨w.heap.size + 1, 1, none⟩ u4) v l := fun h => (set2_own (w' := w') (u := u1) (set2_own (w' := w') (u := u1) h hr) s1).mono (by omega)
  exact ⟨s1, (r1.grown grown_setCell (by simp)).grown grown_setCell (by simp), (s1.set0 u3).set1 u4, u1, u2, u3, u4, l1, l2, l3, l4, rfl, o h1, o h2, o h3, o h4, k1, k2, k3, k4, set2_below (set2_below (toBelow2 h) (Nat.le_refl _)) (by omega)⟩
theorem results_M1 (F : Func) (hF : F.results = #[.cell 2 26]) (tmps : Array Value) (w : World) (g : Nat) (v1 v2 : Value) (hg : Box2 26 w g v1 v2) (h2 : tmps.getD 2 undef = .pointer (some ⟨g, 0, none⟩)) :
    (results F tmps).run Try.prog w = .ok (.agg #[v1, v2]) w :=
  results_cell_row hF tmps w g _ #[v1, v2] _ _ h2 hg Try.underlying26 rfl (by rw [mea_info]; rfl)
theorem results_MI (F : Func) (hr : F.results = #[.cell 2 26, .tmp 3]) (tmps : Array Value) (w : World) (g : Nat) (v1 v2 : Value) (x : Int) (hg : Box2 26 w g v1 v2) (h2 : tmps.getD 2 undef = .pointer (some ⟨g, 0, none⟩)) (h3 : tmps.getD 3 undef = .int .i64 x) :
    (results F tmps).run Try.prog w = .ok (.tuple #[.agg #[v1, v2], .int .i64 x]) w := by
  have h2' : tmps[2]?.getD undef = .pointer (some ⟨g, 0, none⟩) := by simpa using h2
  have h3' : tmps[3]?.getD undef = .int .i64 x := by simpa using h3
  simp [results, hr, h2', h3', asAddr, run_loadMea w g v1 v2 hg]
theorem results_MM (F : Func) (hr : F.results = #[.cell 2 26, .cell 3 26]) (tmps : Array Value) (w : World) (g g2 : Nat) (v1 v2 v3 v4 : Value) (hg : Box2 26 w g v1 v2) (hg2 : Box2 26 w g2 v3 v4) (h2 : tmps.getD 2 undef = .pointer (some ⟨g, 0, none⟩)) (h3 : tmps.getD 3 undef = .pointer (some ⟨g2, 0, none⟩)) :
    (results F tmps).run Try.prog w = .ok (.tuple #[.agg #[v1, v2], .agg #[v3, v4]]) w := by
  have h2' : tmps[2]?.getD undef = .pointer (some ⟨g, 0, none⟩) := by simpa using h2
  have h3' : tmps[3]?.getD undef = .pointer (some ⟨g2, 0, none⟩) := by simpa using h3
  simp [results, hr, h2', h3', asAddr, run_loadMea w g v1 v2 hg, run_loadMea w g2 v3 v4 hg2]
set_option maxHeartbeats 4000000 in
set_option maxRecDepth 100000 in
theorem drawIsPair_any (v : Value) (l : List Int) (w : World) (hr : RdY w v l) : Calls Try.prog 80 #[v] w (DrawnM w 14) := by
  have HRY := Lib.hid (hr.below (Below.alloc1 _ (.cells #[.slice none 0 0, .slice none 0 0] 26)))
  have hCN := cur_new1 w (.cells #[.slice none 0 0, .slice none 0 0] 26) v
  have HCN := Lib.hid hCN
  have HRC := Lib.hid (HRY.out.below (Below.alloc1 _ (.cells #[v, .int .i64 0, .int .u64 0] 64)))
  have HRD := Lib.hid (fun K w1 (ho : CurOut ((w.alloc (.cells #[.slice none 0 0, .slice none 0 0] 26)).alloc (.cells #[v, .int .i64 0, .int .u64 0] 64)) (w.heap.size + 1) v K w1) => CurOut.rd HRC.out HCN.out ho)
  have HO : Hid (CurOut ((w.alloc (.cells #[.slice none 0 0, .slice none 0 0] 26)).alloc (.cells #[v, .int .i64 0, .int .u64 0] 64)) (w.heap.size + 1) v 0 ((w.alloc (.cells #[.slice none 0 0, .slice none 0 0] 26)).alloc (.cells #[v, .int .i64 0, .int .u64 0] 64))) := CurOut.refl (k := 0) hCN
  have HR0 : Hid (Box2 26 ((w.alloc (.cells #[.slice none 0 0, .slice none 0 0] 26)).alloc (.cells #[v, .int .i64 0, .int .u64 0] 64)) w.heap.size (.slice none 0 0) (.slice none 0 0)) := (Box2.new _ _ _ _).below (Below.alloc1 _ _)
  clear hCN
  have HIF : Hid (∀ b : Bool, b = true ∨ b = false) := fun b => by cases b <;> simp
  obtain ⟨y1, y2, rfl, _⟩ := hr
  go_enter Try.func80, Try.ntmps80
  go_wp2_with fail
  refine (pair_any (w.heap.size + 1) 0 6 _ l _ HO.out.1 (HRD.out _ _ HO.out) (by omega) (by omega)).mono ?_
  rintro e w1 ⟨v_mt, v_mb, l_mt, l_mb, rfl, hq, hq2, hl_mt, hl_mb, ho⟩
  obtain ⟨mta, mtc, rfl, mtc1, mtc2⟩ := hq.form; unfold maxLen at mtc2
  obtain ⟨mba, mbc, rfl, mbc1, mbc2⟩ := hq2.form; unfold maxLen at mbc2
  have O_mt : Hid (Own (w.heap.size + 1 + 1) w1 _ _) := hq.mono (by have h9 := HO.out.2.size; simp only [World.size_alloc] at h9; (try simp only [World.size_alloc]); omega); clear hq
  have O_mb : Hid (Own (w.heap.size + 1 + 1) w1 _ _) := hq2.mono (by have h9 := HO.out.2.size; simp only [World.size_alloc] at h9; (try simp only [World.size_alloc]); omega); clear hq2
  replace HO := Lib.hid (CurOut.mono (HO.out.trans ho) (show _ ≤ 102 by omega)); clear ho
  have R0 := Lib.hid (HR0.out.grown HO.out.2 (by simp))
  have r0a := R0.out.c0; have r0b := R0.out.c1; have r0c := R0.out.free 0; have r0d := R0.out.free 1
  go_wp2_with fail
  refine bodyPost_ret (results_M1 _ (by kernel_rfl) _ _ _ _ _ ((R0.out.set0 _).set1 _) rfl) rfl (drawnM_end HO.out R0.out O_mt.out O_mb.out (by omega) (by omega))






set_option maxRecDepth 100000 in
theorem drawMeanderText_any (v : Value) (l : List Int) (w : World) (hr : RdY w v l) : Calls Try.prog 24 #[v] w (DrawnM w 14) := by
  have HS := Lib.hid (drawIsPair_any v l _ (hr.below (Below.alloc1 w (.cells #[.slice none 0 0, .slice none 0 0] 26))))
  have HR := Lib.hid (Box2.new 26 w (.slice none 0 0) (.slice none 0 0))
  obtain ⟨y1, y2, rfl, _⟩ := hr
  go_enter Try.func24, Try.ntmps24
  go_wp2_with fail
  refine HS.out.mono ?_
  rintro e w1 ⟨u1, u2, l1, l2, rfl, hq, hq2, hl1, hl2, hb⟩
  obtain ⟨x1, x2, x3, rfl⟩ := hq.form'
  obtain ⟨z1, z2, z3, rfl⟩ := hq2.form'
  have HQ := Lib.hid hq; have HQ2 := Lib.hid hq2; have HB := Lib.hid (Below.step (Below.alloc1 w _) hb)
  have R0 := Lib.hid (HR.out.below hb)
  have r0a := R0.out.c0; have r0b := R0.out.c1; have r0c := R0.out.free 0; have r0d := R0.out.free 1
  clear hq hq2 hb
  go_wp2_with fail
  refine bodyPost_ret (results_M1 _ (by kernel_rfl) _ _ _ _ _ ((R0.out.set0 _).set1 _) rfl) rfl ⟨_, _, l1, l2, rfl, (set2_own (w' := w) (u := .bool true) HQ.out R0.out).mono (by simp), (set2_own (w' := w) (u := .bool true) HQ2.out R0.out).mono (by simp), hl1, hl2, set2_below HB.out (Nat.le_refl _)⟩
set_option maxHeartbeats 4000000 in
set_option maxRecDepth 100000 in
theorem drawTurnMeander_any (v : Value) (l : List Int) (w : World) (hr : RdY w v l) : Calls Try.prog 8 #[v] w (DrawnMI w 14 (fun x => -101 ≤ x ∧ x ≤ 4611686018427387904)) := by
  have HRY := Lib.hid (hr.below (Below.alloc1 _ (.cells #[.slice none 0 0, .slice none 0 0] 26)))
  have hCN := cur_new1 w (.cells #[.slice none 0 0, .slice none 0 0] 26) v
  have HCN := Lib.hid hCN
  have HRC := Lib.hid (HRY.out.below (Below.alloc1 _ (.cells #[v, .int .i64 0, .int .u64 0] 64)))
  have HRD := Lib.hid (fun K w1 (ho : CurOut ((w.alloc (.cells #[.slice none 0 0, .slice none 0 0] 26)).alloc (.cells #[v, .int .i64 0, .int .u64 0] 64)) (w.heap.size + 1) v K w1) => CurOut.rd HRC.out HCN.out ho)
  have HO : Hid (CurOut ((w.alloc (.cells #[.slice none 0 0, .slice none 0 0] 26)).alloc (.cells #[v, .int .i64 0, .int .u64 0] 64)) (w.heap.size + 1) v 0 ((w.alloc (.cells #[.slice none 0 0, .slice none 0 0] 26)).alloc (.cells #[v, .int .i64 0, .int .u64 0] 64))) := CurOut.refl (k := 0) hCN
  have HR0 : Hid (Box2 26 ((w.alloc (.cells #[.slice none 0 0, .slice none 0 0] 26)).alloc (.cells #[v, .int .i64 0, .int .u64 0] 64)) w.heap.size (.slice none 0 0) (.slice none 0 0)) := (Box2.new _ _ _ _).below (Below.alloc1 _ _)
  clear hCN
  have HIF : Hid (∀ b : Bool, b = true ∨ b = false) := fun b => by cases b <;> simp
  obtain ⟨y1, y2, rfl, _⟩ := hr
  go_enter Try.func8, Try.ntmps8
  go_wp2_with fail
  refine (pick_any (w.heap.size + 1) 0 25 _ l _ HO.out.1 (HRD.out _ _ HO.out) (by omega) (by omega)).mono ?_
  rintro e w1 ⟨x, rfl, hx, ho⟩
  replace HO := Lib.hid (CurOut.mono (HO.out.trans ho) (show _ ≤ 2 by omega)); clear ho
  have Hx : Hid (0 ≤ x ∧ x ≤ 24) := by obtain ⟨h0, h1⟩ := hx; unfold Hid; rcases h1 with h1 | h1 <;> omega
  clear hx
  have hw2 : IntKind.i64.wrap (x - 12) = x - 12 := IntWalk.i64_in _ (by have := Hx.out; omega)
  go_wp2_with fail
  refine (one_any (w.heap.size + 1) 2 8 _ l _ HO.out.1 (HRD.out _ _ HO.out) (by omega) (by omega)).mono ?_
  rintro e w2 ⟨b, rfl, ho⟩
  replace HO := Lib.hid (CurOut.mono (HO.out.trans ho) (show _ ≤ 4 by omega)); clear ho
  rcases HIF.out b with rfl | rfl
  · go_wp2_with fail
    refine (among_own (w.heap.size + 1) 4 (w.heap.size + 1 + 1) (.slice (some ⟨w2.heap.size, 0, none⟩) 5 5) _ l [-101, -100, 100, 101, 4611686018427387904] (w2.alloc (.cells #[.int .i64 (-101), .int .i64 (-100), .int .i64 100, .int .i64 101, .int .i64 4611686018427387904] 3)) (HO.out.1.below (Below.alloc1 _ _)) ((HRD.out _ _ HO.out).below (Below.alloc1 _ _)) (World.ownsRow_lit w2 _ 5 (by have h9 := HO.out.2.size; simp only [World.size_alloc] at h9; (try simp only [World.size_alloc]); omega) (by unfold maxLen; omega) rfl) (by omega) (by simp) (by simp) (by omega)).mono ?_
    rintro e w3 ⟨y, rfl, hy, ho⟩
    replace HO := Lib.hid (CurOut.mono ((CurOut.below HO.out (Below.alloc1 _ _)).trans ho) (show _ ≤ 6 by omega)); clear ho
    have Hy : Hid (-101 ≤ y ∧ y ≤ 4611686018427387904) := by
      simp only [List.mem_cons, List.not_mem_nil, or_false] at hy
      unfold Hid
      omega
    clear hy
    go_wp2_with fail
    refine (pair_any (w.heap.size + 1) 6 6 _ l _ HO.out.1 (HRD.out _ _ HO.out) (by omega) (by omega)).mono ?_
    rintro e w4 ⟨v_mt, v_mb, l_mt, l_mb, rfl, hq, hq2, hl_mt, hl_mb, ho⟩
    obtain ⟨mta, mtc, rfl, mtc1, mtc2⟩ := hq.form; unfold maxLen at mtc2
    obtain ⟨mba, mbc, rfl, mbc1, mbc2⟩ := hq2.form; unfold maxLen at mbc2
    have O_mt : Hid (Own (w.heap.size + 1 + 1) w4 _ _) := hq.mono (by have h9 := HO.out.2.size; simp only [World.size_alloc] at h9; (try simp only [World.size_alloc]); omega); clear hq
    have O_mb : Hid (Own (w.heap.size + 1 + 1) w4 _ _) := hq2.mono (by have h9 := HO.out.2.size; simp only [World.size_alloc] at h9; (try simp only [World.size_alloc]); omega); clear hq2
    replace HO := Lib.hid (CurOut.mono (HO.out.trans ho) (show _ ≤ 108 by omega)); clear ho
    have R0 := Lib.hid (HR0.out.grown HO.out.2 (by simp <;> omega))
    have r0a := R0.out.c0; have r0b := R0.out.c1; have r0c := R0.out.free 0; have r0d := R0.out.free 1
    go_wp2_with fail
    refine bodyPost_ret (results_MI _ (by kernel_rfl) _ _ _ _ _ _ ((R0.out.set0 _).set1 _) rfl rfl) rfl (drawnMI_end HO.out R0.out O_mt.out O_mb.out (by omega) (by omega) (by have := Hy.out; omega))
  · go_wp2_with fail
    refine (pair_any (w.heap.size + 1) 4 6 _ l _ HO.out.1 (HRD.out _ _ HO.out) (by omega) (by omega)).mono ?_
    rintro e w3 ⟨v_mt, v_mb, l_mt, l_mb, rfl, hq, hq2, hl_mt, hl_mb, ho⟩
    obtain ⟨mta, mtc, rfl, mtc1, mtc2⟩ := hq.form; unfold maxLen at mtc2
    obtain ⟨mba, mbc, rfl, mbc1, mbc2⟩ := hq2.form; unfold maxLen at mbc2
    have O_mt : Hid (Own (w.heap.size + 1 + 1) w3 _ _) := hq.mono (by have h9 := HO.out.2.size; simp only [World.size_alloc] at h9; (try simp only [World.size_alloc]); omega); clear hq
    have O_mb : Hid (Own (w.heap.size + 1 + 1) w3 _ _) := hq2.mono (by have h9 := HO.out.2.size; simp only [World.size_alloc] at h9; (try simp only [World.size_alloc]); omega); clear hq2
    replace HO := Lib.hid (CurOut.mono (HO.out.trans ho) (show _ ≤ 106 by omega)); clear ho
    have R0 := Lib.hid (HR0.out.grown HO.out.2 (by simp <;> omega))
    have r0a := R0.out.c0; have r0b := R0.out.c1; have r0c := R0.out.free 0; have r0d := R0.out.free 1
    go_wp2_with fail
    refine bodyPost_ret (results_MI _ (by kernel_rfl) _ _ _ _ _ _ ((R0.out.set0 _).set1 _) rfl rfl) rfl (drawnMI_end HO.out R0.out O_mt.out O_mb.out (by omega) (by omega) (by have := Hx.out; omega))
set_option maxHeartbeats 4000000 in
set_option maxRecDepth 100000 in
theorem drawJoinMeanders_any (v : Value) (l : List Int) (w : World) (hr : RdY w v l) : Calls Try.prog 17 #[v] w (DrawnMM w 14) := by
  have HRY := Lib.hid ((hr.below (Below.alloc1 _ (.cells #[.slice none 0 0, .slice none 0 0] 26))).below (Below.alloc1 _ (.cells #[.slice none 0 0, .slice none 0 0] 26)))
  have hCN := cur_new2 w (.cells #[.slice none 0 0, .slice none 0 0] 26) (.cells #[.slice none 0 0, .slice none 0 0] 26) v
  have HCN := Lib.hid hCN
  have HRC := Lib.hid (HRY.out.below (Below.alloc1 _ (.cells #[v, .int .i64 0, .int .u64 0] 64)))
  have HRD := Lib.hid (fun K w1 (ho : CurOut (((w.alloc (.cells #[.slice none 0 0, .slice none 0 0] 26)).alloc (.cells #[.slice none 0 0, .slice none 0 0] 26)).alloc (.cells #[v, .int .i64 0, .int .u64 0] 64)) (w.heap.size + 1 + 1) v K w1) => CurOut.rd HRC.out HCN.out ho)
  have HO : Hid (CurOut (((w.alloc (.cells #[.slice none 0 0, .slice none 0 0] 26)).alloc (.cells #[.slice none 0 0, .slice none 0 0] 26)).alloc (.cells #[v, .int .i64 0, .int .u64 0] 64)) (w.heap.size + 1 + 1) v 0 (((w.alloc (.cells #[.slice none 0 0, .slice none 0 0] 26)).alloc (.cells #[.slice none 0 0, .slice none 0 0] 26)).alloc (.cells #[v, .int .i64 0, .int .u64 0] 64))) := CurOut.refl (k := 0) hCN
  have HR0 : Hid (Box2 26 (((w.alloc (.cells #[.slice none 0 0, .slice none 0 0] 26)).alloc (.cells #[.slice none 0 0, .slice none 0 0] 26)).alloc (.cells #[v, .int .i64 0, .int .u64 0] 64)) w.heap.size (.slice none 0 0) (.slice none 0 0)) := ((Box2.new _ _ _ _).below (Below.alloc1 _ _)).below (Below.alloc1 _ _)
  have HR1 : Hid (Box2 26 (((w.alloc (.cells #[.slice none 0 0, .slice none 0 0] 26)).alloc (.cells #[.slice none 0 0, .slice none 0 0] 26)).alloc (.cells #[v, .int .i64 0, .int .u64 0] 64)) (w.heap.size + 1) (.slice none 0 0) (.slice none 0 0)) := by have h := Box2.new 26 (w.alloc (.cells #[.slice none 0 0, .slice none 0 0] 26)) (.slice none 0 0) (.slice none 0 0); rw [World.size_alloc] at h; exact h.below (Below.alloc1 _ _)
  clear hCN
  have HIF : Hid (∀ b : Bool, b = true ∨ b = false) := fun b => by cases b <;> simp
  obtain ⟨y1, y2, rfl, _⟩ := hr
  go_enter Try.func17, Try.ntmps17
  go_wp2_with fail
  refine (pair_any (w.heap.size + 1 + 1) 0 4 _ l _ HO.out.1 (HRD.out _ _ HO.out) (by omega) (by omega)).mono ?_
  rintro e w1 ⟨v_at, v_ab, l_at, l_ab, rfl, hq, hq2, hl_at, hl_ab, ho⟩
  obtain ⟨ata, atc, rfl, atc1, atc2⟩ := hq.form; unfold maxLen at atc2
  obtain ⟨aba, abc, rfl, abc1, abc2⟩ := hq2.form; unfold maxLen at abc2
  have O_at : Hid (Own (w.heap.size + 1 + 1 + 1) w1 _ _) := hq.mono (by have h9 := HO.out.2.size; simp only [World.size_alloc] at h9; (try simp only [World.size_alloc]); omega); clear hq
  have O_ab : Hid (Own (w.heap.size + 1 + 1 + 1) w1 _ _) := hq2.mono (by have h9 := HO.out.2.size; simp only [World.size_alloc] at h9; (try simp only [World.size_alloc]); omega); clear hq2
  replace HO := Lib.hid (CurOut.mono (HO.out.trans ho) (show _ ≤ 102 by omega)); clear ho
  go_wp2_with fail
  refine (pair_any (w.heap.size + 1 + 1) 102 4 _ l _ HO.out.1 (HRD.out _ _ HO.out) (by omega) (by omega)).mono ?_
  rintro e w2 ⟨v_bt, v_bb, l_bt, l_bb, rfl, hq, hq2, hl_bt, hl_bb, ho⟩
  obtain ⟨bta, btc, rfl, btc1, btc2⟩ := hq.form; unfold maxLen at btc2
  obtain ⟨bba, bbc, rfl, bbc1, bbc2⟩ := hq2.form; unfold maxLen at bbc2
  replace O_at := Lib.hid (CurOut.own ho O_at.out (Nat.lt_succ_self _))
  replace O_ab := Lib.hid (CurOut.own ho O_ab.out (Nat.lt_succ_self _))
  have O_bt : Hid (Own (w.heap.size + 1 + 1 + 1) w2 _ _) := hq.mono (by have h9 := HO.out.2.size; simp only [World.size_alloc] at h9; (try simp only [World.size_alloc]); omega); clear hq
  have O_bb : Hid (Own (w.heap.size + 1 + 1 + 1) w2 _ _) := hq2.mono (by have h9 := HO.out.2.size; simp only [World.size_alloc] at h9; (try simp only [World.size_alloc]); omega); clear hq2
  replace HO := Lib.hid (CurOut.mono (HO.out.trans ho) (show _ ≤ 204 by omega)); clear ho
  have R0 := Lib.hid (HR0.out.grown HO.out.2 (by simp <;> omega)); have R1 := Lib.hid (HR1.out.grown HO.out.2 (by simp <;> omega))
  have r0a := R0.out.c0; have r0b := R0.out.c1; have r0c := R0.out.free 0; have r0d := R0.out.free 1
  have HA := Lib.hid (drawnMM_end HO.out R0.out R1.out O_at.out O_ab.out O_bt.out O_bb.out hl_at hl_ab hl_bt hl_bb)
  have Q1 := Lib.hid HA.out.1; have r1a := Q1.out.c0; have r1b := Q1.out.c1; have r1c := Q1.out.free 0; have r1d := Q1.out.free 1
  go_wp2_with fail
  refine bodyPost_ret (results_MM _ (by kernel_rfl) _ _ _ _ _ _ _ _ HA.out.2.1 HA.out.2.2.1 rfl rfl) rfl HA.out.2.2.2
set_option maxHeartbeats 4000000 in
set_option maxRecDepth 100000 in
theorem drawParseMeander_any (v : Value) (l : List Int) (w : World) (hr : RdY w v l) : Calls Try.prog 20 #[v] w (DrawnT w 40) := by
  have HR0 := Lib.hid (hr.below (Below.alloc1 w (.cells #[v, .int .i64 0, .int .u64 0] 64)))
  have HRD := Lib.hid (fun K w1 (ho : CurOut (w.alloc (.cells #[v, .int .i64 0, .int .u64 0] 64)) w.heap.size v K w1) => CurOut.rd HR0.out (cur_new w v) ho)
  have HO : Hid (CurOut (w.alloc (.cells #[v, .int .i64 0, .int .u64 0] 64)) w.heap.size v 0 (w.alloc (.cells #[v, .int .i64 0, .int .u64 0] 64))) := CurOut.refl (k := 0) (cur_new w v)
  have HIF : Hid (∀ b : Bool, b = true ∨ b = false) := fun b => by cases b <;> simp
  obtain ⟨y1, y2, rfl, _⟩ := hr
  go_enter Try.func20, Try.ntmps20
  go_wp2_with fail
  refine (pick_any w.heap.size 0 5 _ l _ HO.out.1 (HRD.out _ _ HO.out) (by omega) (by omega)).mono ?_
  rintro e w1 ⟨x, rfl, hx, ho⟩
  replace HO := Lib.hid (CurOut.mono (HO.out.trans ho) (show _ ≤ 2 by omega)); clear ho
  have Hx : Hid (0 ≤ x ∧ x ≤ 4) := by obtain ⟨h0, h1⟩ := hx; unfold Hid; rcases h1 with h1 | h1 <;> omega
  clear hx
  obtain ⟨n, hn⟩ := Int.eq_ofNat_of_zero_le Hx.out.1
  have hn6 : n ≤ 4 := by have := Hx.out.2; omega
  subst hn
  go_wp2_with fail
  refine (sure_any w.heap.size 2 n _ l _ HO.out.1 (HRD.out _ _ HO.out) (by omega) (by omega)).mono ?_
  rintro e w2 ⟨v_p, l_p, rfl, hq, hl_p, ho⟩
  obtain ⟨pa, pc, rfl, pc1, pc2⟩ := hq.form; unfold maxLen at pc2
  have O_p : Hid (Own (w.heap.size + 1) w2 _ _) := hq.mono (by have h9 := HO.out.2.size; simp only [World.size_alloc] at h9; (try simp only [World.size_alloc]); omega); clear hq
  replace HO := Lib.hid (CurOut.mono (HO.out.trans ho) (show _ ≤ 18 by omega)); clear ho
  go_wp2_with fail
  refine (sure_any w.heap.size 18 n _ l _ HO.out.1 (HRD.out _ _ HO.out) (by omega) (by omega)).mono ?_
  rintro e w3 ⟨v_q, l_q, rfl, hq, hl_q, ho⟩
  obtain ⟨qa, qc, rfl, qc1, qc2⟩ := hq.form; unfold maxLen at qc2
  replace O_p := Lib.hid (CurOut.own ho O_p.out (Nat.lt_succ_self _))
  have O_q : Hid (Own (w.heap.size + 1) w3 _ _) := hq.mono (by have h9 := HO.out.2.size; simp only [World.size_alloc] at h9; (try simp only [World.size_alloc]); omega); clear hq
  replace HO := Lib.hid (CurOut.mono (HO.out.trans ho) (show _ ≤ 34 by omega)); clear ho
  go_wp2_with fail
  refine (meText_any l_p l_q _ _ _ O_p.out.rd O_q.out.rd hl_p hl_q).mono ?_
  rintro e w9 ⟨rfl, hb9⟩
  replace HO := Lib.hid (CurOut.below HO.out hb9)
  obtain ⟨t, ht⟩ : ∃ t, pairT l_p l_q = t := ⟨_, rfl⟩
  have hts : t.size ≤ 25 := by
    rw [← ht]; unfold pairT
    rw [ByteArray.size_append, ByteArray.size_append, textT_size, textT_size]
    have : (⟨#[124]⟩ : ByteArray).size = 1 := rfl
    omega
  rw [ht]
  clear ht hb9 O_p O_q
  go_wp2_with fail
  refine (one_any w.heap.size 34 3 _ l _ HO.out.1 (HRD.out _ _ HO.out) (by omega) (by omega)).mono ?_
  rintro e w4 ⟨b, rfl, ho⟩
  replace HO := Lib.hid (CurOut.mono (HO.out.trans ho) (show _ ≤ 36 by omega)); clear ho
  rcases HIF.out b with rfl | rfl
  · go_wp2_with fail
    refine (spoilt_any w.heap.size 36 t ⟨#[40, 41, 124]⟩ _ l _ HO.out.1 (HRD.out _ _ HO.out) (by omega) (by omega) (by decide) (by decide)).mono ?_
    rintro e w5 ⟨t2, rfl, ht2, ho⟩
    replace HO := Lib.hid (CurOut.mono (HO.out.trans ho) (show _ ≤ 60 by omega)); clear ho
    go_wp2_with fail
    go_ret
    exact ⟨t2, rfl, by omega, CurOut.toBelow HO.out⟩
  · go_wp2_with fail
    go_ret
    exact ⟨t, rfl, by omega, CurOut.toBelow HO.out⟩

end Go.Proofs.Ytbinpefogecgmab
