/- JoinSeaweeds: the model. -/
import Derived.Test.YtgaaddfipkdlaaaJoinW
namespace Go.Proofs.Ytgaaddfipkdlaaa
open Go.RowKit
set_option linter.unusedSimpArgs false
set_option linter.unusedVariables false

theorem run_appendW (w : World) (ty : TypeId) (B : Nat) (v u : Value) (xs ys : List Int) (hown : Own B w v xs) (hrd : Rd w u ys) (hlen : xs.length + ys.length ≤ 1000000000) (hB : B ≤ w.heap.size) :
    ∃ v' w', (Builtin.append_ #[22, 22] ty #[v, u]).run Try.prog w = .ok v' w' ∧ Own B w' v' (xs ++ ys) ∧ w.grownBy w' v.ownBlock ∧ Below B w w' ∧ (∀ k, v'.ownBlock = some k → v.ownBlock = some k ∨ w.heap.size ≤ k) := by
  obtain ⟨i0, hi, hz0, hz1, hz2⟩ := info_parts Try.info3
  obtain ⟨ad, c, rfl, hlc, hcm, hn, hc⟩ := hrd
  cases ad with
  | none =>
    obtain rfl := hn rfl
    have hy : ys = [] := List.eq_nil_of_length_eq_zero (by omega)
    subst hy
    have hrun := run_append_owned_none (P := Try.prog) (w := w) B 22 ty 3 i0 1 Try.underlying22 hi v xs.length (ints xs) hown
    exact ⟨v, w, hrun, by simpa using hown, World.grownBy.refl _ _, Below.refl _ _, fun k hk => .inl hk⟩
  | some x0 =>
    have hnews : ∀ (j : Nat) (y : Value), (ints ys)[j]? = some y → w.cell? (x0.add j) = some y := by
      intro j y hj
      rcases hc with rfl | ⟨b, off, h1, h2⟩
      · simp [ints] at hj
      · simp at h1
        subst h1
        have hjl : j < ys.length := by
          have := (List.getElem?_eq_some_iff.1 hj).1
          simpa [ints] using this
        rw [Addr.add_lit, h2 j hjl]
        simp [ints, List.getElem?_eq_getElem hjl] at hj
        simp [List.getD, List.getElem?_eq_getElem hjl, hj]
    obtain ⟨v', w', hr, h2, h3, _⟩ := run_append_own (P := Try.prog) w B 22 ty 3 i0 (.int .i64 0) 1 8 Try.underlying22 hi hz0 hz1 hz2 rfl (by decide) v xs.length (ints xs) hown x0 ys.length c (ints ys) (by simp [ints]) hnews (ints_oneCell _ _) (by unfold maxLen; omega) (by omega) hB
    have h4 := append_where w B 22 ty 3 i0 (.int .i64 0) 1 8 Try.underlying22 hi hz0 hz1 hz2 rfl (by decide) v xs.length (ints xs) hown x0 ys.length c (ints ys) (by simp [ints]) hnews (ints_oneCell _ _) (by unfold maxLen; omega) (by omega) hB v' w' hr
    refine ⟨v', w', hr, ?_, h3, below_grown h3 hB fun k hk => (hown.lt k hk).1, h4⟩
    unfold Own ints
    rw [List.length_append, List.map_append]
    exact h2
theorem step_appendW {ops : Array Oper} {o : Oper} {a : Act} {K : Act → World → Prop} {Q : Exit → Act → World → Prop} {E : Prop} (w : World) (hgd : o.guard = none) (s x : Operand)
    (ho : o.op = .call { callee := .builtin .append, args := #[s, x], argTypes := #[22, 22] })
    (B : Nat) (v u : Value) (xs ys : List Int) (hs : a.eval s = v) (hx : a.eval x = u) (hown : Own B w v xs) (hrd : Rd w u ys) (hlen : xs.length + ys.length ≤ 1000000000) (hB : B ≤ w.heap.size)
    (h : ∀ v' w', Own B w' v' (xs ++ ys) → w.grownBy w' v.ownBlock → Below B w w' → (∀ k, v'.ownBlock = some k → v.ownBlock = some k ∨ w.heap.size ≤ k) → K (a.put o.dst v') w') :
    if Region.wanted o (yielded ops a.tmps) = true then Oper.wp Try.prog o a w K Q else E := by
  have hw : Region.wanted o (yielded ops a.tmps) = true := by simp [Region.wanted, hgd]
  rw [if_pos hw]
  obtain ⟨v', w', hr, h2, h3, h4, h5⟩ := run_appendW w o.type B v u xs ys hown hrd hlen hB
  unfold Oper.wp execOp
  simp only [ho, resolve, invoke, builtin, Sem.run_bind, Sem.run_pure, Result.andThen_ok, List.map_toArray, List.map_cons, List.map_nil, hs, hx, hr]
  exact h v' w' h2 h3 h4 h5
/-- the other row stands while one grows -/
theorem own_other {B : Nat} {w w' : World} {v u : Value} {l m : List Int} (hu : Own B w u m) (hv : Own B w v l) (ha : ∀ k, v.ownBlock = some k → u.ownBlock ≠ some k) (hg : w.grownBy w' v.ownBlock) : Own B w' u m :=
  hu.grown hg (fun k hk e => ha k e hk)
theorem apart_grown {B : Nat} {w : World} {v v' u : Value} {m : List Int} (hu : Own B w u m) (ha : ∀ k, v.ownBlock = some k → u.ownBlock ≠ some k) (hl : ∀ k, v'.ownBlock = some k → v.ownBlock = some k ∨ w.heap.size ≤ k) : ∀ k, v'.ownBlock = some k → u.ownBlock ≠ some k := by
  intro k hk hk'
  rcases hl k hk with h | h
  · exact ha k h hk'
  · have := (hu.lt k hk').2; omega
theorem apart_sym {u v : Value} (h : ∀ k, v.ownBlock = some k → u.ownBlock ≠ some k) : ∀ k, u.ownBlock = some k → v.ownBlock ≠ some k := fun k hk hk' => h k hk' hk

/-- as JS, whatever the result's variable holds -/
structure JR (w : World) (u1 u2 u3 u4 : Value) (W : World) : Prop where
  A : Box2 29 W w.heap.size u1 u2
  B : Box2 29 W (w.heap.size + 1) u3 u4
  sz : w.heap.size + 1 + 1 + 1 ≤ W.heap.size
  bel : Below w.heap.size w W
theorem JR.to {w W : World} {u1 u2 u3 u4 : Value} (h : JR w u1 u2 u3 u4 W) : Hid (JR w u1 u2 u3 u4 W) ∧ W.cell? ⟨w.heap.size, 0, none⟩ = some u1 ∧ W.cell? ⟨w.heap.size, 1, none⟩ = some u2 ∧ W.cell? ⟨w.heap.size + 1, 0, none⟩ = some u3 ∧ W.cell? ⟨w.heap.size + 1, 1, none⟩ = some u4 := ⟨h, h.A.c0, h.A.c1, h.B.c0, h.B.c1⟩
theorem JS.jr {w W : World} {u1 u2 u3 u4 : Value} (h : JS w u1 u2 u3 u4 W) : JR w u1 u2 u3 u4 W := ⟨h.A, h.B, h.size, h.bel⟩
theorem jr_keepB {w W W' : World} {u1 u2 u3 u4 : Value} (h : Hid (JR w u1 u2 u3 u4 W) ∧ W.cell? ⟨w.heap.size, 0, none⟩ = some u1 ∧ W.cell? ⟨w.heap.size, 1, none⟩ = some u2 ∧ W.cell? ⟨w.heap.size + 1, 0, none⟩ = some u3 ∧ W.cell? ⟨w.heap.size + 1, 1, none⟩ = some u4) (hb : Below (w.heap.size + 1 + 1 + 1) W W') : Hid (JR w u1 u2 u3 u4 W') ∧ W'.cell? ⟨w.heap.size, 0, none⟩ = some u1 ∧ W'.cell? ⟨w.heap.size, 1, none⟩ = some u2 ∧ W'.cell? ⟨w.heap.size + 1, 0, none⟩ = some u3 ∧ W'.cell? ⟨w.heap.size + 1, 1, none⟩ = some u4 :=
  JR.to ⟨(hb.block _ (by omega)).trans h.1.out.A, (hb.block _ (by omega)).trans h.1.out.B, Nat.le_trans h.1.out.sz hb.size, Below.trans h.1.out.bel (hb.mono (by omega))⟩
theorem jr_keep {w W W' : World} {u1 u2 u3 u4 : Value} (h : Hid (JR w u1 u2 u3 u4 W) ∧ W.cell? ⟨w.heap.size, 0, none⟩ = some u1 ∧ W.cell? ⟨w.heap.size, 1, none⟩ = some u2 ∧ W.cell? ⟨w.heap.size + 1, 0, none⟩ = some u3 ∧ W.cell? ⟨w.heap.size + 1, 1, none⟩ = some u4) (hb : Below W.heap.size W W') : Hid (JR w u1 u2 u3 u4 W') ∧ W'.cell? ⟨w.heap.size, 0, none⟩ = some u1 ∧ W'.cell? ⟨w.heap.size, 1, none⟩ = some u2 ∧ W'.cell? ⟨w.heap.size + 1, 0, none⟩ = some u3 ∧ W'.cell? ⟨w.heap.size + 1, 1, none⟩ = some u4 := jr_keepB h (hb.mono h.1.out.sz)
theorem jr_bel {w W : World} {u1 u2 u3 u4 : Value} (h : Hid (JR w u1 u2 u3 u4 W) ∧ W.cell? ⟨w.heap.size, 0, none⟩ = some u1 ∧ W.cell? ⟨w.heap.size, 1, none⟩ = some u2 ∧ W.cell? ⟨w.heap.size + 1, 0, none⟩ = some u3 ∧ W.cell? ⟨w.heap.size + 1, 1, none⟩ = some u4) : Below w.heap.size w W := h.1.out.bel
theorem jr_size {w W : World} {u1 u2 u3 u4 : Value} (h : Hid (JR w u1 u2 u3 u4 W) ∧ W.cell? ⟨w.heap.size, 0, none⟩ = some u1 ∧ W.cell? ⟨w.heap.size, 1, none⟩ = some u2 ∧ W.cell? ⟨w.heap.size + 1, 0, none⟩ = some u3 ∧ W.cell? ⟨w.heap.size + 1, 1, none⟩ = some u4) : w.heap.size + 1 + 1 + 1 ≤ W.heap.size := h.1.out.sz
theorem box_other {X : TypeId} {W : World} {g g' i : Nat} {a b x : Value} (h : Box2 X W g a b) (hne : g ≠ g') : Box2 X (W.setCell ⟨g', i, none⟩ x) g a b := (heap_setCell_other W ⟨g', i, none⟩ g _ hne).trans h
theorem jr_setR {w W : World} {u1 u2 u3 u4 x y : Value} (h : Hid (JR w u1 u2 u3 u4 W) ∧ W.cell? ⟨w.heap.size, 0, none⟩ = some u1 ∧ W.cell? ⟨w.heap.size, 1, none⟩ = some u2 ∧ W.cell? ⟨w.heap.size + 1, 0, none⟩ = some u3 ∧ W.cell? ⟨w.heap.size + 1, 1, none⟩ = some u4) : Hid (JR w u1 u2 u3 u4 ((W.setCell ⟨w.heap.size + 1 + 1, 0, none⟩ x).setCell ⟨w.heap.size + 1 + 1, 1, none⟩ y)) ∧ ((W.setCell ⟨w.heap.size + 1 + 1, 0, none⟩ x).setCell ⟨w.heap.size + 1 + 1, 1, none⟩ y).cell? ⟨w.heap.size, 0, none⟩ = some u1 ∧ ((W.setCell ⟨w.heap.size + 1 + 1, 0, none⟩ x).setCell ⟨w.heap.size + 1 + 1, 1, none⟩ y).cell? ⟨w.heap.size, 1, none⟩ = some u2 ∧ ((W.setCell ⟨w.heap.size + 1 + 1, 0, none⟩ x).setCell ⟨w.heap.size + 1 + 1, 1, none⟩ y).cell? ⟨w.heap.size + 1, 0, none⟩ = some u3 ∧ ((W.setCell ⟨w.heap.size + 1 + 1, 0, none⟩ x).setCell ⟨w.heap.size + 1 + 1, 1, none⟩ y).cell? ⟨w.heap.size + 1, 1, none⟩ = some u4 :=
  JR.to ⟨box_other (box_other h.1.out.A (by omega)) (by omega), box_other (box_other h.1.out.B (by omega)) (by omega), by simpa using h.1.out.sz, (h.1.out.bel.setCell (p := ⟨w.heap.size + 1 + 1, 0, none⟩) (by show _ ≤ w.heap.size + 1 + 1; omega) x).setCell (p := ⟨w.heap.size + 1 + 1, 1, none⟩) (by show _ ≤ w.heap.size + 1 + 1; omega) y⟩
theorem rn_keepB {w W W' : World} {x y : Value} (h : Box2 29 W (w.heap.size + 1 + 1) x y) (hb : Below (w.heap.size + 1 + 1 + 1) W W') : Box2 29 W' (w.heap.size + 1 + 1) x y := (hb.block _ (by omega)).trans h

theorem js_keepH {w W W' : World} {u1 u2 u3 u4 : Value} (h : Hid (JS w u1 u2 u3 u4 W)) (hb : Below W.heap.size W W') : Hid (JS w u1 u2 u3 u4 W') ∧ W'.cell? ⟨w.heap.size, 0, none⟩ = some u1 ∧ W'.cell? ⟨w.heap.size, 1, none⟩ = some u2 ∧ W'.cell? ⟨w.heap.size + 1, 0, none⟩ = some u3 ∧ W'.cell? ⟨w.heap.size + 1, 1, none⟩ = some u4 := JS.to (h.out.keep hb)
theorem js_belH {w W : World} {u1 u2 u3 u4 : Value} (h : Hid (JS w u1 u2 u3 u4 W)) : Below w.heap.size w W := h.out.bel
set_option maxHeartbeats 8000000 in
set_option maxRecDepth 100000 in
theorem spec_js_no1 (t b p q : List Int) (w : World) (a1 a2 a3 a4 : Option Addr) (l1 l2 l3 l4 n1 n2 n3 n4 : Nat) (h1 : Rd w (.slice a1 l1 n1) t) (h2 : Rd w (.slice a2 l2 n2) b) (h3 : Rd w (.slice a3 l3 n3) p) (h4 : Rd w (.slice a4 l4 n4) q) (m1 : t.length ≤ 1048576) (m2 : b.length ≤ 1048576) (m3 : p.length ≤ 1048576) (m4 : q.length ≤ 1048576) (e1 : weedB t b = false) :
    Calls Try.prog 29 #[.agg #[.slice a1 l1 n1, .slice a2 l2 n2], .agg #[.slice a3 l3 n3, .slice a4 l4 n4]] w (GivesW w [] [] false) := by
  have hJ0 := JS.start w (.slice a1 l1 n1) (.slice a2 l2 n2) (.slice a3 l3 n3) (.slice a4 l4 n4)
  have ht1 := (fun (W : World) (hb : Below w.heap.size w W) => swGood_any t b W _ _ (h1.below hb) (h2.below hb) m1 m2)
  simp only [e1] at ht1
  have HT1 := Lib.hid ht1; have HJ := Lib.hid hJ0
  have k0 := hJ0.A.c0; have k1 := hJ0.A.c1; have k2 := hJ0.B.c0; have k3 := hJ0.B.c1
  clear hJ0 ht1 h1 h2 h3 h4 m1 m2 m3 m4 e1
  go_enter Try.func29, Try.ntmps29
  go_wp2_with fail
  generalize (((w.alloc (.cells #[.slice a1 l1 n1, .slice a2 l2 n2] 29)).alloc (.cells #[.slice a3 l3 n3, .slice a4 l4 n4] 29)).alloc (.cells #[.slice none 0 0, .slice none 0 0] 29)) = W at *
  have Y0 : Hid (JS w (.slice a1 l1 n1) (.slice a2 l2 n2) (.slice a3 l3 n3) (.slice a4 l4 n4) W.drew) := HJ.out.keep (Below.refl W.heap.size W).drew
  first
    | go_region_with (first
      | (go_at_call 33; ((with_reducible refine (HT1.out _ (js_belH (by assumption))).mono ?_); rintro e w1 ⟨rfl, hb1⟩; obtain ⟨Y1, c10, c11, c12, c13⟩ := js_keepH (by assumption) hb1; clear hb1)))
    | fail
  all_goals
    have hJ := Y1.out
    have g0 := hJ.R.c0; have g1 := hJ.R.c1; have g2 := hJ.R.free 0; have g3 := hJ.R.free 1
    have HN := sea_none (w := w) hJ.R hJ.bel (by omega)
    clear hJ
    go_wp2
    exact bodyPost_ret (results_js _ (by kernel_rfl) _ _ (w.heap.size + 1 + 1) _ _ false HN.out.1 rfl rfl) rfl ⟨_, _, rfl, Own.nil _ _, Own.nil _ _, ApartV.nil _, HN.out.2⟩
set_option maxHeartbeats 8000000 in
set_option maxRecDepth 100000 in
theorem spec_js_no2 (t b p q : List Int) (w : World) (a1 a2 a3 a4 : Option Addr) (l1 l2 l3 l4 n1 n2 n3 n4 : Nat) (h1 : Rd w (.slice a1 l1 n1) t) (h2 : Rd w (.slice a2 l2 n2) b) (h3 : Rd w (.slice a3 l3 n3) p) (h4 : Rd w (.slice a4 l4 n4) q) (m1 : t.length ≤ 1048576) (m2 : b.length ≤ 1048576) (m3 : p.length ≤ 1048576) (m4 : q.length ≤ 1048576) (e1 : weedB t b = true) (e2 : weedB p q = false) :
    Calls Try.prog 29 #[.agg #[.slice a1 l1 n1, .slice a2 l2 n2], .agg #[.slice a3 l3 n3, .slice a4 l4 n4]] w (GivesW w [] [] false) := by
  have hJ0 := JS.start w (.slice a1 l1 n1) (.slice a2 l2 n2) (.slice a3 l3 n3) (.slice a4 l4 n4)
  have ht1 := (fun (W : World) (hb : Below w.heap.size w W) => swGood_any t b W _ _ (h1.below hb) (h2.below hb) m1 m2)
  have ht2 := (fun (W : World) (hb : Below w.heap.size w W) => swGood_any p q W _ _ (h3.below hb) (h4.below hb) m3 m4)
  simp only [e1] at ht1
  simp only [e2] at ht2
  have HT1 := Lib.hid ht1; have HT2 := Lib.hid ht2; have HJ := Lib.hid hJ0
  have k0 := hJ0.A.c0; have k1 := hJ0.A.c1; have k2 := hJ0.B.c0; have k3 := hJ0.B.c1
  clear hJ0 ht1 ht2 h1 h2 h3 h4 m1 m2 m3 m4 e1 e2
  go_enter Try.func29, Try.ntmps29
  go_wp2_with fail
  generalize (((w.alloc (.cells #[.slice a1 l1 n1, .slice a2 l2 n2] 29)).alloc (.cells #[.slice a3 l3 n3, .slice a4 l4 n4] 29)).alloc (.cells #[.slice none 0 0, .slice none 0 0] 29)) = W at *
  have Y0 : Hid (JS w (.slice a1 l1 n1) (.slice a2 l2 n2) (.slice a3 l3 n3) (.slice a4 l4 n4) W.drew) := HJ.out.keep (Below.refl W.heap.size W).drew
  first
    | go_region_with (first
      | (go_at_call 33; ((with_reducible refine (HT1.out _ (js_belH (by assumption))).mono ?_); rintro e w1 ⟨rfl, hb1⟩; obtain ⟨Y1, c10, c11, c12, c13⟩ := js_keepH (by assumption) hb1; clear hb1))
      | (go_at_call 33; ((with_reducible refine (HT2.out _ (js_belH (by assumption))).mono ?_); rintro e w2 ⟨rfl, hb2⟩; obtain ⟨Y2, c20, c21, c22, c23⟩ := js_keepH (by assumption) hb2; clear hb2)))
    | fail
  all_goals
    have hJ := Y2.out
    have g0 := hJ.R.c0; have g1 := hJ.R.c1; have g2 := hJ.R.free 0; have g3 := hJ.R.free 1
    have HN := sea_none (w := w) hJ.R hJ.bel (by omega)
    clear hJ
    go_wp2
    exact bodyPost_ret (results_js _ (by kernel_rfl) _ _ (w.heap.size + 1 + 1) _ _ false HN.out.1 rfl rfl) rfl ⟨_, _, rfl, Own.nil _ _, Own.nil _ _, ApartV.nil _, HN.out.2⟩
set_option maxHeartbeats 8000000 in
set_option maxRecDepth 100000 in
theorem spec_js_no3 (t b p q : List Int) (w : World) (a1 a2 a3 a4 : Option Addr) (l1 l2 l3 l4 n1 n2 n3 n4 : Nat) (h1 : Rd w (.slice a1 l1 n1) t) (h2 : Rd w (.slice a2 l2 n2) b) (h3 : Rd w (.slice a3 l3 n3) p) (h4 : Rd w (.slice a4 l4 n4) q) (m1 : t.length ≤ 1048576) (m2 : b.length ≤ 1048576) (m3 : p.length ≤ 1048576) (m4 : q.length ≤ 1048576) (e1 : weedB t b = true) (e2 : weedB p q = true) (e3 : weedB (t ++ p) (b ++ q) = false) :
    Calls Try.prog 29 #[.agg #[.slice a1 l1 n1, .slice a2 l2 n2], .agg #[.slice a3 l3 n3, .slice a4 l4 n4]] w (GivesW w [] [] false) := by
  have hJ0 := JS.start w (.slice a1 l1 n1) (.slice a2 l2 n2) (.slice a3 l3 n3) (.slice a4 l4 n4)
  have ht1 := (fun (W : World) (hb : Below w.heap.size w W) => swGood_any t b W _ _ (h1.below hb) (h2.below hb) m1 m2)
  have ht2 := (fun (W : World) (hb : Below w.heap.size w W) => swGood_any p q W _ _ (h3.below hb) (h4.below hb) m3 m4)
  simp only [e1] at ht1
  simp only [e2] at ht2
  have HT1 := Lib.hid ht1; have HT2 := Lib.hid ht2; have HJ := Lib.hid hJ0
  have k0 := hJ0.A.c0; have k1 := hJ0.A.c1; have k2 := hJ0.B.c0; have k3 := hJ0.B.c1
  have z1 := parts_facts (weed_facts e1).1; have z2 := parts_facts (weed_facts e2).1
  have hs1 := fun (W : World) (hb : Below w.heap.size w W) => swSum_any _ t W (h1.below hb) z1.2.2.1 (parts_rng (weed_facts e1).1)
  have hs2 := fun (W : World) (hb : Below w.heap.size w W) => swSum_any _ p W (h3.below hb) z2.2.2.1 (parts_rng (weed_facts e2).1)
  have y1 := z1.2.1; have y2 := z1.2.2.2; have y3 := z2.2.1; have y4 := z2.2.2.2
  have hwj := weed_join e1 e2
  rw [e3] at hwj
  have HS1 := Lib.hid hs1; have HS2 := Lib.hid hs2
  generalize t.sum = x at *
  generalize p.sum = y at *
  have j1 : IntKind.i64.wrap (x + y) = x + y := IntWalk.i64_in _ (by omega)
  have hgt : (20 : Int) < x + y := by have := of_decide_eq_false hwj.symm; omega
  have hgd : decide ((20 : Int) < x + y) = true := decide_eq_true hgt
  clear hJ0 ht1 ht2 h1 h2 h3 h4 m1 m2 m3 m4 e1 e2 e3 z1 z2 hs1 hs2 hwj
  go_enter Try.func29, Try.ntmps29
  go_wp2_with fail
  generalize (((w.alloc (.cells #[.slice a1 l1 n1, .slice a2 l2 n2] 29)).alloc (.cells #[.slice a3 l3 n3, .slice a4 l4 n4] 29)).alloc (.cells #[.slice none 0 0, .slice none 0 0] 29)) = W at *
  have Y0 : Hid (JS w (.slice a1 l1 n1) (.slice a2 l2 n2) (.slice a3 l3 n3) (.slice a4 l4 n4) W.drew) := HJ.out.keep (Below.refl W.heap.size W).drew
  first
    | go_region_with (first
      | (go_at_call 33; ((with_reducible refine (HT1.out _ (js_belH (by assumption))).mono ?_); rintro e w1 ⟨rfl, hb1⟩; obtain ⟨Y1, c10, c11, c12, c13⟩ := js_keepH (by assumption) hb1; clear hb1))
      | (go_at_call 33; ((with_reducible refine (HT2.out _ (js_belH (by assumption))).mono ?_); rintro e w2 ⟨rfl, hb2⟩; obtain ⟨Y2, c20, c21, c22, c23⟩ := js_keepH (by assumption) hb2; clear hb2))
      | (go_at_call 46; ((with_reducible refine (HS1.out _ (js_belH (by assumption))).mono ?_); rintro e w3 ⟨rfl, rfl⟩))
      | (go_at_call 46; ((with_reducible refine (HS2.out _ (js_belH (by assumption))).mono ?_); rintro e w4 ⟨rfl, rfl⟩)))
    | fail
  all_goals
    have hJ := Y2.out
    have g0 := hJ.R.c0; have g1 := hJ.R.c1; have g2 := hJ.R.free 0; have g3 := hJ.R.free 1
    have HN := sea_none (w := w) hJ.R hJ.bel (by omega)
    clear hJ
    go_wp2
    exact bodyPost_ret (results_js _ (by kernel_rfl) _ _ (w.heap.size + 1 + 1) _ _ false HN.out.1 rfl rfl) rfl ⟨_, _, rfl, Own.nil _ _, Own.nil _ _, ApartV.nil _, HN.out.2⟩
set_option maxHeartbeats 8000000 in
set_option maxRecDepth 100000 in
theorem spec_js_yes (t b p q : List Int) (w : World) (a1 a2 a3 a4 : Option Addr) (l1 l2 l3 l4 n1 n2 n3 n4 : Nat) (h1 : Rd w (.slice a1 l1 n1) t) (h2 : Rd w (.slice a2 l2 n2) b) (h3 : Rd w (.slice a3 l3 n3) p) (h4 : Rd w (.slice a4 l4 n4) q) (m1 : t.length ≤ 1048576) (m2 : b.length ≤ 1048576) (m3 : p.length ≤ 1048576) (m4 : q.length ≤ 1048576) (e1 : weedB t b = true) (e2 : weedB p q = true) (e3 : weedB (t ++ p) (b ++ q) = true) :
    Calls Try.prog 29 #[.agg #[.slice a1 l1 n1, .slice a2 l2 n2], .agg #[.slice a3 l3 n3, .slice a4 l4 n4]] w (GivesW w (t ++ p) (b ++ q) true) := by
  have hJ0 := JS.start w (.slice a1 l1 n1) (.slice a2 l2 n2) (.slice a3 l3 n3) (.slice a4 l4 n4)
  have ht1 := (fun (W : World) (hb : Below w.heap.size w W) => swGood_any t b W _ _ (h1.below hb) (h2.below hb) m1 m2)
  have ht2 := (fun (W : World) (hb : Below w.heap.size w W) => swGood_any p q W _ _ (h3.below hb) (h4.below hb) m3 m4)
  simp only [e1] at ht1
  simp only [e2] at ht2
  have HT1 := Lib.hid ht1; have HT2 := Lib.hid ht2; have HJ := Lib.hid hJ0
  have k0 := hJ0.A.c0; have k1 := hJ0.A.c1; have k2 := hJ0.B.c0; have k3 := hJ0.B.c1
  have hl1 := weed_lens e1; have hl2 := weed_lens e2
  have z1 := parts_facts (weed_facts e1).1; have z2 := parts_facts (weed_facts e2).1
  have hs1 := fun (W : World) (hb : Below w.heap.size w W) => swSum_any _ t W (h1.below hb) z1.2.2.1 (parts_rng (weed_facts e1).1)
  have hs2 := fun (W : World) (hb : Below w.heap.size w W) => swSum_any _ p W (h3.below hb) z2.2.2.1 (parts_rng (weed_facts e2).1)
  have y1 := z1.2.1; have y2 := z1.2.2.2; have y3 := z2.2.1; have y4 := z2.2.2.2
  have hwj := weed_join e1 e2
  rw [e3] at hwj
  have HS1 := Lib.hid hs1; have HS2 := Lib.hid hs2
  generalize t.sum = x at *
  generalize p.sum = y at *
  have j1 : IntKind.i64.wrap (x + y) = x + y := IntWalk.i64_in _ (by omega)
  have hgt : ¬ (20 : Int) < x + y := by have := of_decide_eq_true hwj.symm; omega
  have hgd : decide ((20 : Int) < x + y) = false := decide_eq_false hgt
  have ML : Hid (t.length + p.length ≤ 1000000000 ∧ b.length + q.length ≤ 1000000000) := by refine ⟨?_, ?_⟩ <;> omega
  have HO1 := Lib.hid (fun (W : World) (hb : Below w.heap.size w W) => l1Own_any _ t W (h1.below hb) (by omega))
  have HO2 := Lib.hid (fun (W : World) (hb : Below w.heap.size w W) => l1Own_any _ b W (h2.below hb) (by omega))
  have H3 := Lib.hid h3; have H4 := Lib.hid h4
  clear hJ0 ht1 ht2 h1 h2 h3 h4 m1 m2 m3 m4 e1 e2 e3 z1 z2 hs1 hs2 hwj hl1 hl2
  go_enter Try.func29, Try.ntmps29
  go_wp2_with fail
  generalize (((w.alloc (.cells #[.slice a1 l1 n1, .slice a2 l2 n2] 29)).alloc (.cells #[.slice a3 l3 n3, .slice a4 l4 n4] 29)).alloc (.cells #[.slice none 0 0, .slice none 0 0] 29)) = W at *
  go_upto_region 1 with (fail)
  go_cut [23] (fun s23 wx => s23 = .bool false ∧ Hid (JS w (.slice a1 l1 n1) (.slice a2 l2 n2) (.slice a3 l3 n3) (.slice a4 l4 n4) wx))
  case first =>
    have Y0 : Hid (JS w (.slice a1 l1 n1) (.slice a2 l2 n2) (.slice a3 l3 n3) (.slice a4 l4 n4) W.drew) := HJ.out.keep (Below.refl W.heap.size W).drew
    first
      | go_region_with (first
        | (go_at_call 33; ((with_reducible refine (HT1.out _ (js_belH (by assumption))).mono ?_); rintro e w1 ⟨rfl, hb1⟩; obtain ⟨Y1, c10, c11, c12, c13⟩ := js_keepH (by assumption) hb1; clear hb1))
        | (go_at_call 33; ((with_reducible refine (HT2.out _ (js_belH (by assumption))).mono ?_); rintro e w2 ⟨rfl, hb2⟩; obtain ⟨Y2, c20, c21, c22, c23⟩ := js_keepH (by assumption) hb2; clear hb2))
        | (go_at_call 46; ((with_reducible refine (HS1.out _ (js_belH (by assumption))).mono ?_); rintro e w3 ⟨rfl, rfl⟩))
        | (go_at_call 46; ((with_reducible refine (HS2.out _ (js_belH (by assumption))).mono ?_); rintro e w4 ⟨rfl, rfl⟩)))
      | fail
    all_goals
      go_wp2_with fail
      go_meet
      exact ⟨rfl, Y2⟩
  obtain ⟨rfl, HJ3⟩ := hcut
  generalize wc = wb at *
  clear HJ
  have hS : Hid (JR w (.slice a1 l1 n1) (.slice a2 l2 n2) (.slice a3 l3 n3) (.slice a4 l4 n4) wb.drew) ∧ wb.drew.cell? ⟨w.heap.size, 0, none⟩ = some (.slice a1 l1 n1) ∧ wb.drew.cell? ⟨w.heap.size, 1, none⟩ = some (.slice a2 l2 n2) ∧ wb.drew.cell? ⟨w.heap.size + 1, 0, none⟩ = some (.slice a3 l3 n3) ∧ wb.drew.cell? ⟨w.heap.size + 1, 1, none⟩ = some (.slice a4 l4 n4) := JR.to (HJ3.out.keep (Below.refl wb.heap.size wb).drew).jr
  have HRN := Lib.hid (HJ3.out.keep (Below.refl wb.heap.size wb).drew).R
  go_wp2_with fail
  go_region_held3 (fun w' => Hid (JR w (.slice a1 l1 n1) (.slice a2 l2 n2) (.slice a3 l3 n3) (.slice a4 l4 n4) w') ∧ w'.cell? ⟨w.heap.size, 0, none⟩ = some (.slice a1 l1 n1) ∧ w'.cell? ⟨w.heap.size, 1, none⟩ = some (.slice a2 l2 n2) ∧ w'.cell? ⟨w.heap.size + 1, 0, none⟩ = some (.slice a3 l3 n3) ∧ w'.cell? ⟨w.heap.size + 1, 1, none⟩ = some (.slice a4 l4 n4))
    (first | assumption | exact jr_keep (by assumption) (by assumption) | exact jr_keepB (by assumption) (by assumption) | exact jr_setR (by assumption))
    (first
      | (go_at_call 47; ((with_reducible refine (HO1.out _ (jr_bel (by assumption))).mono ?_); rintro e w1x ⟨v1, rfl, ho1, hb1⟩; obtain ⟨x1, y1, z1, rfl⟩ := ho1.form'; (try (have HAP1 := Lib.hid (apart_sym (apart_of HV2.out ho1 (Nat.le_refl _))); have HAP2 := Lib.hid (apart_of HV2.out ho1 (Nat.le_refl _)); have HV2 := Lib.hid (HV2.out.below hb1))); have HV1 := Lib.hid (ho1.mono (jr_size (by assumption))); have hSo1 := jr_keep (by assumption) hb1; have hbq1 := hb1; clear hb1 ho1; have HRN := Lib.hid (rn_keepB HRN.out (hbq1.mono (jr_size (by assumption)))); have q := HRN.out; clear hbq1; have q0 := q.c0; have q1 := q.c1; have q2 := q.free 0; have q3 := q.free 1; clear q))
      | (go_at_call 47; ((with_reducible refine (HO2.out _ (jr_bel (by assumption))).mono ?_); rintro e w2x ⟨v2, rfl, ho2, hb2⟩; obtain ⟨x2, y2, z2, rfl⟩ := ho2.form'; (try (have HAP2 := Lib.hid (apart_sym (apart_of HV1.out ho2 (Nat.le_refl _))); have HAP1 := Lib.hid (apart_of HV1.out ho2 (Nat.le_refl _)); have HV1 := Lib.hid (HV1.out.below hb2))); have HV2 := Lib.hid (ho2.mono (jr_size (by assumption))); have hSo2 := jr_keep (by assumption) hb2; have hbq2 := hb2; clear hb2 ho2; have HRN := Lib.hid (rn_keepB HRN.out (hbq2.mono (jr_size (by assumption)))); have q := HRN.out; clear hbq2; have q0 := q.c0; have q1 := q.c1; have q2 := q.free 0; have q3 := q.free 1; clear q))
      | ((refine step_appendW _ (by rfl) (.tmp 27) (.tmp 29) (by rfl) (w.heap.size + 1 + 1 + 1) (.slice x1 y1 z1) (.slice a3 l3 n3) t p (by rfl) (by rfl) HV1.out (H3.out.below (jr_bel (by assumption))) ML.out.1 (jr_size (by assumption)) ?_); intro v1p w1p ho1 hg1 hb1 hl1; (try (have HAQ := Lib.hid (apart_grown HV2.out HAP1.out hl1); have HV2 := Lib.hid (own_other HV2.out HV1.out HAP1.out hg1); have HAP1 := HAQ; have HAP2 := Lib.hid (apart_sym HAQ.out))); obtain ⟨x1, y1, z1, rfl⟩ := ho1.form'; have HV1 := Lib.hid ho1; have hSa1 := jr_keepB (by assumption) hb1; have HRN := Lib.hid (rn_keepB HRN.out hb1); clear hb1 ho1 hg1 hl1; have q := HRN.out; have q0 := q.c0; have q1 := q.c1; have q2 := q.free 0; have q3 := q.free 1; clear q)
      | ((refine step_appendW _ (by rfl) (.tmp 33) (.tmp 35) (by rfl) (w.heap.size + 1 + 1 + 1) (.slice x2 y2 z2) (.slice a4 l4 n4) b q (by rfl) (by rfl) HV2.out (H4.out.below (jr_bel (by assumption))) ML.out.2 (jr_size (by assumption)) ?_); intro v2p w2p ho2 hg2 hb2 hl2; (try (have HAQ := Lib.hid (apart_grown HV1.out HAP2.out hl2); have HV1 := Lib.hid (own_other HV1.out HV2.out HAP2.out hg2); have HAP2 := HAQ; have HAP1 := Lib.hid (apart_sym HAQ.out))); obtain ⟨x2, y2, z2, rfl⟩ := ho2.form'; have HV2 := Lib.hid ho2; have hSa2 := jr_keepB (by assumption) hb2; have HRN := Lib.hid (rn_keepB HRN.out hb2); clear hb2 ho2 hg2 hl2; have q := HRN.out; have q0 := q.c0; have q1 := q.c1; have q2 := q.free 0; have q3 := q.free 1; clear q)
      | fail)
  all_goals
    have HF := sea_stored HRN.out (jr_bel (by assumption)) (by omega) (by omega) HV1.out HV2.out (fun k hk hk' => HAP1.out k hk hk') (by omega)
    go_wp2
    exact bodyPost_ret (results_js _ (by kernel_rfl) _ _ (w.heap.size + 1 + 1) _ _ true HF.out.1 rfl rfl) rfl ⟨_, _, rfl, HF.out.2.1, HF.out.2.2.1, HF.out.2.2.2.1, HF.out.2.2.2.2⟩
theorem spec_JoinSeaweeds (t b p q : List Int) (w : World) (u1 u2 u3 u4 : Value) (h1 : Rd w u1 t) (h2 : Rd w u2 b) (h3 : Rd w u3 p) (h4 : Rd w u4 q) (m1 : t.length ≤ 1048576) (m2 : b.length ≤ 1048576) (m3 : p.length ≤ 1048576) (m4 : q.length ≤ 1048576) :
    Calls Try.prog 29 #[.agg #[u1, u2], .agg #[u3, u4]] w (GivesW w (res1_JoinSeaweeds t b p q) (res2_JoinSeaweeds t b p q) (ok_JoinSeaweeds t b p q)) := by
  unfold res1_JoinSeaweeds res2_JoinSeaweeds ok_JoinSeaweeds
  have k1 := h1; have k2 := h2; have k3 := h3; have k4 := h4
  obtain ⟨a1, n1, rfl, _⟩ := k1
  obtain ⟨a2, n2, rfl, _⟩ := k2
  obtain ⟨a3, n3, rfl, _⟩ := k3
  obtain ⟨a4, n4, rfl, _⟩ := k4
  cases e1 : weedB t b with
  | false => exact spec_js_no1 t b p q w a1 a2 a3 a4 _ _ _ _ n1 n2 n3 n4 h1 h2 h3 h4 m1 m2 m3 m4 e1
  | true =>
    cases e2 : weedB p q with
    | false => exact spec_js_no2 t b p q w a1 a2 a3 a4 _ _ _ _ n1 n2 n3 n4 h1 h2 h3 h4 m1 m2 m3 m4 e1 e2
    | true =>
      cases e3 : weedB (t ++ p) (b ++ q) with
      | false => exact spec_js_no3 t b p q w a1 a2 a3 a4 _ _ _ _ n1 n2 n3 n4 h1 h2 h3 h4 m1 m2 m3 m4 e1 e2 e3
      | true => exact spec_js_yes t b p q w a1 a2 a3 a4 _ _ _ _ n1 n2 n3 n4 h1 h2 h3 h4 m1 m2 m3 m4 e1 e2 e3
end Go.Proofs.Ytgaaddfipkdlaaa
