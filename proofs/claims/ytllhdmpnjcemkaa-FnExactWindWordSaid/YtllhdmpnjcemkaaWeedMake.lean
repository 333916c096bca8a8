/- Seaweeds made out of parts; IsSeaweed; FlipSeaweed. -/
import Derived.Test.YtllhdmpnjcemkaaWeedRun
namespace Go.Proofs.Ytllhdmpnjcemkaa
open Go.RowKit
set_option linter.unusedSimpArgs false
set_option linter.unusedVariables false

theorem Rd.form {w : World} {v : Value} {l : List Int} (h : Rd w v l) : ∃ a c, v = .slice a l.length c ∧ l.length ≤ c ∧ c ≤ maxLen := by
  obtain ⟨a, c, rfl, h1, h2, _⟩ := h; exact ⟨a, c, rfl, h1, h2⟩

set_option maxHeartbeats 1000000 in
theorem partsList_any (v : Value) (l : List Int) (w : World) (h : Rd w v l) (hl : l.length ≤ 1000000) : Calls Try.prog 64 #[v] w (Made w l) := by
  have H := Lib.hid h
  obtain ⟨a, c, rfl, h1, h2⟩ := Rd.form h
  obtain ⟨n, hn⟩ : ∃ n, n = l.length := ⟨_, rfl⟩
  rw [← hn] at H h1 hl ⊢
  have HN := Lib.hid hn; clear hn h
  unfold maxLen at h2
  go_enter Try.func64, Try.ntmps64
  go_wp2_with (first
    | (at_make; refine wp_make _ rfl _ _ rfl n _ _ rfl rfl rfl rfl (by omega) ?_; intro w1 hown hbel hsz)
    | ((with_reducible refine wp_copyT 51 _ rfl (.tmp 7) (.tmp 8) rfl w.heap.size w.heap.size n n (.slice a n c) (List.replicate n 0) l rfl rfl hown (H.out.below hbel) HN.out.symm ?_); intro w2 x hown2 hgr hbel2))
  go_ret
  exact ⟨_, rfl, hown2, hbel.trans hbel2⟩

theorem results_ws (tmps : Array Value) (w : World) (g : Nat) (v1 v2 : Value) (hg : Box2 27 w g v1 v2) (h2 : tmps.getD 2 undef = .pointer (some ⟨g, 0, none⟩)) :
    (results Try.f48 tmps).run Try.prog w = .ok (.agg #[v1, v2]) w :=
  results_cell_row (by kernel_rfl) tmps w g _ #[v1, v2] _ _ h2 hg Try.underlying27 rfl (by rw [sea_info]; rfl)

/-- two lists that two calls made, put into the variable of the result -/
theorem put_two {w W2 w1 w2 : World} {x1 x2 : Option Addr} {y1 z1 y2 z2 : Nat} {l1 l2 : List Int} {r1 r2 : Value} (HR : Box2 27 W2 (w.heap.size + 1) r1 r2) (HB : Below w.heap.size w W2)
    (HO1 : Own W2.heap.size w1 (.slice x1 y1 z1) l1) (hb1 : Below W2.heap.size W2 w1) (HO2 : Own w1.heap.size w2 (.slice x2 y2 z2) l2) (hb2 : Below w1.heap.size w1 w2) :
    Hid (Box2 27 ((w2.setCell ⟨w.heap.size + 1, 0, none⟩ (.slice x1 y1 z1)).setCell ⟨w.heap.size + 1, 1, none⟩ (.slice x2 y2 z2)) (w.heap.size + 1) (.slice x1 y1 z1) (.slice x2 y2 z2) ∧
      Own w.heap.size ((w2.setCell ⟨w.heap.size + 1, 0, none⟩ (.slice x1 y1 z1)).setCell ⟨w.heap.size + 1, 1, none⟩ (.slice x2 y2 z2)) (.slice x1 y1 z1) l1 ∧
      Own w.heap.size ((w2.setCell ⟨w.heap.size + 1, 0, none⟩ (.slice x1 y1 z1)).setCell ⟨w.heap.size + 1, 1, none⟩ (.slice x2 y2 z2)) (.slice x2 y2 z2) l2 ∧
      ApartV (.slice x1 y1 z1) (.slice x2 y2 z2) ∧
      Below w.heap.size w ((w2.setCell ⟨w.heap.size + 1, 0, none⟩ (.slice x1 y1 z1)).setCell ⟨w.heap.size + 1, 1, none⟩ (.slice x2 y2 z2))) := by
  have HR1 := HR.below hb1
  have HR2 := HR1.below hb2
  have HO12 := HO1.below hb2
  have HB2 := Below.step (Below.step HB hb1) hb2
  have q0 := HR.lt
  have q1 := hb1.size
  have q3 := HB.size
  have G2 : ∀ k, (Value.slice x1 y1 z1).ownBlock = some k → (some (w.heap.size + 1) : Option Nat) ≠ some k := fun k hk e => by have h5 : W2.heap.size ≤ k := (HO12.lt k hk).1; simp at e; omega
  have G3 : ∀ k, (Value.slice x2 y2 z2).ownBlock = some k → (some (w.heap.size + 1) : Option Nat) ≠ some k := fun k hk e => by have h5 := (HO2.lt k hk).1; simp at e; omega
  exact ⟨(HR2.set0 _).set1 _, (HO12.grown (grown_trans grown_setCell grown_setCell) G2).mono q3, (HO2.grown (grown_trans grown_setCell grown_setCell) G3).mono (by omega),
    fun k hk hk' => by have h5 := (HO1.lt k hk).2; have h6 := (HO2.lt k hk').1; omega,
    (HB2.setCell (p := ⟨w.heap.size + 1, 0, none⟩) (Nat.le_succ _) _).setCell (p := ⟨w.heap.size + 1, 1, none⟩) (Nat.le_succ _) _⟩

set_option maxHeartbeats 4000000 in
theorem weedSeaweed_any (t b : List Int) (w : World) (u1 u2 : Value) (h1 : Rd w u1 t) (h2 : Rd w u2 b) (l1 : t.length ≤ 1000000) (l2 : b.length ≤ 1000000) :
    Calls Try.prog 48 #[.agg #[u1, u2]] w (MadeW w t b) := by
  have B2 := below2 w (.cells #[u1, u2] 53) (.cells #[.slice none 0 0, .slice none 0 0] 27)
  have hP := Box2.below (Box2.new 53 w u1 u2) (Below.alloc1 _ (.cells #[.slice none 0 0, .slice none 0 0] 27))
  have hR := Box2.at1 27 w (.cells #[u1, u2] 53) (.slice none 0 0) (.slice none 0 0)
  have f0 := hR.c0; have f1 := hR.c1; have f2 := hR.free 0; have f3 := hR.free 1; have p0 := hP.c0; have p1 := hP.c1
  have c1 : ∀ W, Below (World.heap ((w.alloc (.cells #[u1, u2] 53)).alloc (.cells #[.slice none 0 0, .slice none 0 0] 27))).size ((w.alloc (.cells #[u1, u2] 53)).alloc (.cells #[.slice none 0 0, .slice none 0 0] 27)) W → Calls Try.prog 64 #[u1] W (Made W t) := fun W hb => partsList_any u1 t W ((h1.below B2).below hb) l1
  have c2 : ∀ W, Below (World.heap ((w.alloc (.cells #[u1, u2] 53)).alloc (.cells #[.slice none 0 0, .slice none 0 0] 27))).size ((w.alloc (.cells #[u1, u2] 53)).alloc (.cells #[.slice none 0 0, .slice none 0 0] 27)) W → Calls Try.prog 64 #[u2] W (Made W b) := fun W hb => partsList_any u2 b W ((h2.below B2).below hb) l2
  have C1 := Lib.hid c1; have C2 := Lib.hid c2; have HP := Lib.hid hP; have HR := Lib.hid hR; have HB := Lib.hid B2
  obtain ⟨a1, n1, rfl, _⟩ := h1
  obtain ⟨a2, n2, rfl, _⟩ := h2
  generalize t.length = m1 at *
  generalize b.length = m2 at *
  clear hP hR B2 l1 l2 c1 c2
  go_enter Try.func48, Try.ntmps48
  go_wp2_with fail
  generalize ((w.alloc (.cells #[.slice a1 m1 n1, .slice a2 m2 n2] 53)).alloc (.cells #[.slice none 0 0, .slice none 0 0] 27)) = W2 at *
  go_region_with (first
    | (go_at_call 64; ((with_reducible refine (C1.out _ (Below.refl _ W2).drew).mono ?_); rintro e w1 ⟨v1, rfl, ho1, hb1⟩; obtain ⟨x1, y1, z1, rfl⟩ := ho1.form'; have HO1 := Lib.hid ho1; have hb1' : Below W2.heap.size W2 w1 := ((Below.refl _ W2).drew).trans hb1; have HX := Lib.hid hb1'; have p2 := (HP.out.below hb1').c0; have p3 := (HP.out.below hb1').c1; clear ho1 hb1 hb1'))
    | (go_at_call 64; ((with_reducible refine (C2.out _ HX.out).mono ?_); rintro e w2 ⟨v2, rfl, ho2, hb2⟩; obtain ⟨x2, y2, z2, rfl⟩ := ho2.form'; have HO2 := Lib.hid ho2; have HY := Lib.hid hb2; have HR2 := Lib.hid ((HR.out.below HX.out).below hb2); have g0 := HR2.out.c0; have g1 := HR2.out.c1; have g2 := HR2.out.free 0; have g3 := HR2.out.free 1; clear ho2 hb2)))
  all_goals
    have HF := put_two HR.out HB.out HO1.out HX.out HO2.out HY.out
    go_wp2
    exact bodyPost_ret (results_ws _ _ (w.heap.size + 1) _ _ HF.out.1 rfl) rfl ⟨_, _, rfl, HF.out.2.1, HF.out.2.2.1, HF.out.2.2.2.1, HF.out.2.2.2.2⟩

/-! IsSeaweed -/
def ok_IsSeaweed (t b : List Int) : Bool := weedB t b
set_option maxHeartbeats 1000000 in
theorem impl_IsSeaweed (t b : List Int) (w : World) (u1 u2 : Value) (h1 : Rd w u1 t) (h2 : Rd w u2 b) (m1 : t.length ≤ 1048576) (m2 : b.length ≤ 1048576) :
    Calls Try.prog 15 #[.agg #[u1, u2]] w (GivesB w (ok_IsSeaweed t b)) := by
  unfold ok_IsSeaweed
  have hA := Box2.new 27 w u1 u2
  have B1 : Below w.heap.size w (w.alloc (.cells #[u1, u2] 27)) := Below.alloc1 w _
  have k0 := hA.c0; have k1 := hA.c1
  have HB := Lib.hid B1
  have g1 := h1.below B1; have g2 := h2.below B1
  obtain ⟨a1, n1, rfl, _⟩ := h1
  obtain ⟨a2, n2, rfl, _⟩ := h2
  cases e : weedB t b with
  | true =>
    have HR := Lib.hid (readWeed_yes t b _ _ _ g1 g2 e)
    clear hA B1 e g1 g2 m1 m2
    generalize t.length = l1 at *
    generalize b.length = l2 at *
    go_enter Try.func15, Try.ntmps15
    go_wp2_with fail
    refine HR.out.mono ?_
    rintro e w1 ⟨rfl, hb1⟩
    have HB1 := Lib.hid (Below.step HB.out hb1); clear hb1
    go_wp2
    go_ret
    exact ⟨rfl, Below.step HB1.out (Below.alloc1 _ _)⟩
  | false =>
    have HR := Lib.hid (readWeed_no t b _ _ _ g1 g2 e)
    clear hA B1 e g1 g2 m1 m2
    generalize t.length = l1 at *
    generalize b.length = l2 at *
    go_enter Try.func15, Try.ntmps15
    go_wp2_with fail
    refine HR.out.mono ?_
    rintro e w1 ⟨rfl, hb1⟩
    have HB1 := Lib.hid (Below.step HB.out hb1); clear hb1
    go_wp2
    go_ret
    exact ⟨rfl, Below.step HB1.out (Below.alloc1 _ _)⟩
theorem spec_IsSeaweed (t b : List Int) (w : World) (u1 u2 : Value) (h1 : Rd w u1 t) (h2 : Rd w u2 b) (m1 : t.length ≤ 1048576) (m2 : b.length ≤ 1048576) :
    Calls Try.prog 13 #[.agg #[u1, u2]] w (GivesB w (ok_IsSeaweed t b)) := by
  unfold ok_IsSeaweed
  have hA := Box2.new 27 w u1 u2
  have B1 : Below w.heap.size w (w.alloc (.cells #[u1, u2] 27)) := Below.alloc1 w _
  have k0 := hA.c0; have k1 := hA.c1
  have hrd := swGood_any t b _ u1 u2 (h1.below B1) (h2.below B1) m1 m2
  have HB := Lib.hid B1; have HR := Lib.hid hrd
  clear hA B1 h1 h2 hrd
  go_enter Try.func13, Try.ntmps13
  go_wp2_with fail
  refine HR.out.mono ?_
  rintro e w1 ⟨rfl, hb1⟩
  go_wp2
  go_ret
  exact ⟨rfl, Below.step HB.out hb1⟩
end Go.Proofs.Ytllhdmpnjcemkaa
