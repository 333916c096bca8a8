/- JoinSeaweeds: program and model. -/
import Derived.Test.YtgaaddfipkdlaaaWeedFlip
import Derived.Test.YtgaaddfipkdlaaaWeedSw
import Derived.Test.YtgaaddfipkdlaaaConcat
import Derived.Test.YtgaaddfipkdlaaaAppStep
import Derived.Deep.RegionHeld3
import Derived.Deep.DeepCutAuto
namespace Go.Proofs.Ytgaaddfipkdlaaa
open Go.RowKit
set_option linter.unusedSimpArgs false
set_option linter.unusedVariables false

def ok_JoinSeaweeds (t b p q : List Int) : Bool := weedB t b && weedB p q && weedB (t ++ p) (b ++ q)
def res1_JoinSeaweeds (t b p q : List Int) : List Int := if ok_JoinSeaweeds t b p q then t ++ p else []
def res2_JoinSeaweeds (t b p q : List Int) : List Int := if ok_JoinSeaweeds t b p q then b ++ q else []
theorem len_JoinSeaweeds (t b p q : List Int) : (res1_JoinSeaweeds t b p q).length ≤ 1000000 ∧ (res2_JoinSeaweeds t b p q).length ≤ 1000000 := by
  unfold res1_JoinSeaweeds res2_JoinSeaweeds
  cases h : ok_JoinSeaweeds t b p q with
  | false => simp
  | true =>
    unfold ok_JoinSeaweeds at h
    rw [Bool.and_eq_true] at h
    have := weed_lens h.2
    rw [if_pos rfl, if_pos rfl]; omega
theorem parts_join {t p : List Int} (h1 : partsB t = true) (h2 : partsB p = true) : partsB (t ++ p) = decide (t.sum + p.sum ≤ 20) := by
  unfold partsB at *
  rw [Bool.and_eq_true] at h1 h2
  rw [List.all_append, List.sum_append, h1.1, h2.1]; simp
theorem weed_join {t b p q : List Int} (h1 : weedB t b = true) (h2 : weedB p q = true) : weedB (t ++ p) (b ++ q) = decide (t.sum + p.sum ≤ 20) := by
  obtain ⟨e1, e2, e3⟩ := weed_facts h1
  obtain ⟨e4, e5, e6⟩ := weed_facts h2
  unfold weedB
  rw [parts_join e1 e4, parts_join e2 e5, ← e3, ← e6, List.sum_append, List.sum_append, e3, e6]
  simp

theorem boxAt2 (X : TypeId) (w : World) (o o' : Obj) (v1 v2 : Value) : Box2 X (((w.alloc o).alloc o').alloc (.cells #[v1, v2] X)) (w.heap.size + 1 + 1) v1 v2 := by
  have h := Box2.new X ((w.alloc o).alloc o') v1 v2
  rw [World.size_alloc, World.size_alloc] at h; exact h
/-- three variables: both seaweeds, and the result -/
structure JS (w : World) (u1 u2 u3 u4 : Value) (W : World) : Prop where
  A : Box2 29 W w.heap.size u1 u2
  B : Box2 29 W (w.heap.size + 1) u3 u4
  R : Box2 29 W (w.heap.size + 1 + 1) (.slice none 0 0) (.slice none 0 0)
  bel : Below w.heap.size w W
theorem JS.size {w W : World} {u1 u2 u3 u4 : Value} (h : JS w u1 u2 u3 u4 W) : w.heap.size + 1 + 1 + 1 ≤ W.heap.size := h.R.lt
theorem JS.start (w : World) (u1 u2 u3 u4 : Value) : JS w u1 u2 u3 u4 (((w.alloc (.cells #[u1, u2] 29)).alloc (.cells #[u3, u4] 29)).alloc (.cells #[(.slice none 0 0), (.slice none 0 0)] 29)) :=
  ⟨((Box2.new _ w u1 u2).below (Below.alloc1 _ _)).below (Below.alloc1 _ _), (Box2.at1 _ w _ u3 u4).below (Below.alloc1 _ _), boxAt2 _ w _ _ _ _, below3 w _ _ _⟩
theorem JS.keepB {w W W' : World} {u1 u2 u3 u4 : Value} (h : JS w u1 u2 u3 u4 W) (hb : Below (w.heap.size + 1 + 1 + 1) W W') : JS w u1 u2 u3 u4 W' := by
  have k : ∀ g v1 v2, g < w.heap.size + 1 + 1 + 1 → Box2 29 W g v1 v2 → Box2 29 W' g v1 v2 := fun g v1 v2 hg hx => (hb.block g hg).trans hx
  exact ⟨k _ _ _ (by omega) h.A, k _ _ _ (by omega) h.B, k _ _ _ (by omega) h.R, Below.trans h.bel (hb.mono (by omega))⟩
theorem JS.keep {w W W' : World} {u1 u2 u3 u4 : Value} (h : JS w u1 u2 u3 u4 W) (hb : Below W.heap.size W W') : JS w u1 u2 u3 u4 W' := h.keepB (hb.mono h.size)
theorem JS.to {w W : World} {u1 u2 u3 u4 : Value} (h : JS w u1 u2 u3 u4 W) : Hid (JS w u1 u2 u3 u4 W) ∧ W.cell? ⟨w.heap.size, 0, none⟩ = some u1 ∧ W.cell? ⟨w.heap.size, 1, none⟩ = some u2 ∧ W.cell? ⟨w.heap.size + 1, 0, none⟩ = some u3 ∧ W.cell? ⟨w.heap.size + 1, 1, none⟩ = some u4 := ⟨h, h.A.c0, h.A.c1, h.B.c0, h.B.c1⟩
theorem js_keep {w W W' : World} {u1 u2 u3 u4 : Value} (h : Hid (JS w u1 u2 u3 u4 W) ∧ W.cell? ⟨w.heap.size, 0, none⟩ = some u1 ∧ W.cell? ⟨w.heap.size, 1, none⟩ = some u2 ∧ W.cell? ⟨w.heap.size + 1, 0, none⟩ = some u3 ∧ W.cell? ⟨w.heap.size + 1, 1, none⟩ = some u4) (hb : Below W.heap.size W W') : Hid (JS w u1 u2 u3 u4 W') ∧ W'.cell? ⟨w.heap.size, 0, none⟩ = some u1 ∧ W'.cell? ⟨w.heap.size, 1, none⟩ = some u2 ∧ W'.cell? ⟨w.heap.size + 1, 0, none⟩ = some u3 ∧ W'.cell? ⟨w.heap.size + 1, 1, none⟩ = some u4 := JS.to (h.1.out.keep hb)
theorem js_keepB {w W W' : World} {u1 u2 u3 u4 : Value} (h : Hid (JS w u1 u2 u3 u4 W) ∧ W.cell? ⟨w.heap.size, 0, none⟩ = some u1 ∧ W.cell? ⟨w.heap.size, 1, none⟩ = some u2 ∧ W.cell? ⟨w.heap.size + 1, 0, none⟩ = some u3 ∧ W.cell? ⟨w.heap.size + 1, 1, none⟩ = some u4) (hb : Below (w.heap.size + 1 + 1 + 1) W W') : Hid (JS w u1 u2 u3 u4 W') ∧ W'.cell? ⟨w.heap.size, 0, none⟩ = some u1 ∧ W'.cell? ⟨w.heap.size, 1, none⟩ = some u2 ∧ W'.cell? ⟨w.heap.size + 1, 0, none⟩ = some u3 ∧ W'.cell? ⟨w.heap.size + 1, 1, none⟩ = some u4 := JS.to (h.1.out.keepB hb)
theorem js_bel {w W : World} {u1 u2 u3 u4 : Value} (h : Hid (JS w u1 u2 u3 u4 W) ∧ W.cell? ⟨w.heap.size, 0, none⟩ = some u1 ∧ W.cell? ⟨w.heap.size, 1, none⟩ = some u2 ∧ W.cell? ⟨w.heap.size + 1, 0, none⟩ = some u3 ∧ W.cell? ⟨w.heap.size + 1, 1, none⟩ = some u4) : Below w.heap.size w W := h.1.out.bel
theorem js_size {w W : World} {u1 u2 u3 u4 : Value} (h : Hid (JS w u1 u2 u3 u4 W) ∧ W.cell? ⟨w.heap.size, 0, none⟩ = some u1 ∧ W.cell? ⟨w.heap.size, 1, none⟩ = some u2 ∧ W.cell? ⟨w.heap.size + 1, 0, none⟩ = some u3 ∧ W.cell? ⟨w.heap.size + 1, 1, none⟩ = some u4) : w.heap.size + 1 + 1 + 1 ≤ W.heap.size := h.1.out.size
theorem js_R {w W : World} {u1 u2 u3 u4 : Value} (h : Hid (JS w u1 u2 u3 u4 W) ∧ W.cell? ⟨w.heap.size, 0, none⟩ = some u1 ∧ W.cell? ⟨w.heap.size, 1, none⟩ = some u2 ∧ W.cell? ⟨w.heap.size + 1, 0, none⟩ = some u3 ∧ W.cell? ⟨w.heap.size + 1, 1, none⟩ = some u4) : Box2 29 W (w.heap.size + 1 + 1) (.slice none 0 0) (.slice none 0 0) := h.1.out.R
theorem js_setz {w W : World} {u1 u2 u3 u4 x y : Value} {g : Nat} (h : Hid (JS w u1 u2 u3 u4 W) ∧ W.cell? ⟨w.heap.size, 0, none⟩ = some u1 ∧ W.cell? ⟨w.heap.size, 1, none⟩ = some u2 ∧ W.cell? ⟨w.heap.size + 1, 0, none⟩ = some u3 ∧ W.cell? ⟨w.heap.size + 1, 1, none⟩ = some u4) (hg : w.heap.size + 1 + 1 + 1 ≤ g) : Hid (JS w u1 u2 u3 u4 ((W.setCell ⟨g, 0, none⟩ x).setCell ⟨g, 1, none⟩ y)) ∧ ((W.setCell ⟨g, 0, none⟩ x).setCell ⟨g, 1, none⟩ y).cell? ⟨w.heap.size, 0, none⟩ = some u1 ∧ ((W.setCell ⟨g, 0, none⟩ x).setCell ⟨g, 1, none⟩ y).cell? ⟨w.heap.size, 1, none⟩ = some u2 ∧ ((W.setCell ⟨g, 0, none⟩ x).setCell ⟨g, 1, none⟩ y).cell? ⟨w.heap.size + 1, 0, none⟩ = some u3 ∧ ((W.setCell ⟨g, 0, none⟩ x).setCell ⟨g, 1, none⟩ y).cell? ⟨w.heap.size + 1, 1, none⟩ = some u4 :=
  js_keepB h (((Below.refl _ W).setCell (p := ⟨g, 0, none⟩) hg x).setCell (p := ⟨g, 1, none⟩) hg y)
theorem lc0 (W : World) (cs : Array Value) (X : TypeId) (i : Nat) (v : Value) (h : cs[i]? = some v) : (W.alloc (.cells cs X)).cell? ⟨W.heap.size, i, none⟩ = some v := by rw [cell_of_row _ _ i _ _ _ (heap_alloc_new W _)]; exact h
theorem lc1 (W : World) (o : Obj) (cs : Array Value) (X : TypeId) (i : Nat) (v : Value) (h : cs[i]? = some v) : ((W.alloc o).alloc (.cells cs X)).cell? ⟨W.heap.size + 1, i, none⟩ = some v := by
  have := lc0 (W.alloc o) cs X i v h
  rwa [World.size_alloc] at this
theorem lc2 (W : World) (o o' : Obj) (cs : Array Value) (X : TypeId) (i : Nat) (v : Value) (h : cs[i]? = some v) : (((W.alloc o).alloc o').alloc (.cells cs X)).cell? ⟨W.heap.size + 1 + 1, i, none⟩ = some v := by
  have := lc1 (W.alloc o) o' cs X i v h
  rwa [World.size_alloc] at this
theorem ca {W : World} {p : Addr} {v : Value} {o : Obj} (h : W.cell? p = some v) : (W.alloc o).cell? p = some v := ((Below.alloc1 W o).cell (World.block_lt_of_cell? W _ h)).trans h
theorem keep2 {W W' : World} {g : Nat} {a b : Value} (hb : Below W.heap.size W W') (h0 : W.cell? ⟨g, 0, none⟩ = some a) (h1 : W.cell? ⟨g, 1, none⟩ = some b) : W'.cell? ⟨g, 0, none⟩ = some a ∧ W'.cell? ⟨g, 1, none⟩ = some b :=
  ⟨(hb.cell (World.block_lt_of_cell? W _ h0)).trans h0, (hb.cell (World.block_lt_of_cell? W _ h1)).trans h1⟩
theorem boxS_not {B b : Nat} {w : World} {v v1 v2 : Value} {l : List Int} (h : Own B w v l) (hb : Box2 29 w b v1 v2) : v.ownBlock ≠ some b := by
  rcases h.2 with ⟨rfl, _⟩ | ⟨g, cap, cur, rfl, _, hg, _⟩
  · simp [Value.ownBlock]
  · intro e
    have e' : g = b := by simpa [Value.ownBlock] using e
    subst e'
    unfold Box2 at hb
    rw [hb] at hg
    simp at hg
theorem own_setS {B g : Nat} {w : World} {v v1 v2 : Value} {l : List Int} (h : Own B w v l) (hb : Box2 29 w g v1 v2) (x y : Value) : Own B ((w.setCell ⟨g, 0, none⟩ x).setCell ⟨g, 1, none⟩ y) v l := by
  have hne : ∀ k, v.ownBlock = some k → some g ≠ some k := fun k hk e => boxS_not h hb (hk.trans e.symm)
  have h1 : Own B (w.setCell ⟨g, 0, none⟩ x) v l := h.grown ⟨rfl, rfl, rfl, by simp, fun k _ hk => heap_setCell_other w ⟨g, 0, none⟩ k _ (fun e => hk (by simp [e]))⟩ hne
  exact h1.grown ⟨rfl, rfl, rfl, by simp, fun k _ hk => heap_setCell_other _ ⟨g, 1, none⟩ k _ (fun e => hk (by simp [e]))⟩ hne
/-- what the joined one is, in a variable of its own -/
def JOut (w : World) (u1 u2 u3 u4 : Value) (wx : World) (g : Nat) (v1 v2 : Value) (r1 r2 : List Int) : Prop :=
  Box2 29 wx g v1 v2 ∧ Own (w.heap.size + 1 + 1 + 1) wx v1 r1 ∧ Own (w.heap.size + 1 + 1 + 1) wx v2 r2 ∧ ApartV v1 v2 ∧ JS w u1 u2 u3 u4 wx
theorem jm_new {w wq : World} {u1 u2 u3 u4 v1 v2 : Value} {r1 r2 : List Int} (hJ : Hid (JS w u1 u2 u3 u4 wq) ∧ wq.cell? ⟨w.heap.size, 0, none⟩ = some u1 ∧ wq.cell? ⟨w.heap.size, 1, none⟩ = some u2 ∧ wq.cell? ⟨w.heap.size + 1, 0, none⟩ = some u3 ∧ wq.cell? ⟨w.heap.size + 1, 1, none⟩ = some u4) (h1 : Own (w.heap.size + 1 + 1 + 1) wq v1 r1) (h2 : Own (w.heap.size + 1 + 1 + 1) wq v2 r2) (ha : ApartV v1 v2) :
    Hid (JOut w u1 u2 u3 u4 (wq.alloc (.cells #[v1, v2] 29)) wq.heap.size v1 v2 r1 r2) :=
  ⟨Box2.new _ _ _ _, h1.below (Below.alloc1 _ _), h2.below (Below.alloc1 _ _), ha, hJ.1.out.keep (Below.alloc1 _ _)⟩
theorem jm_set {w wq : World} {u1 u2 u3 u4 v1 v2 x y : Value} {g : Nat} {r1 r2 : List Int} (hz : Box2 29 wq g x y) (hg : w.heap.size + 1 + 1 + 1 ≤ g) (hJ : Hid (JS w u1 u2 u3 u4 wq) ∧ wq.cell? ⟨w.heap.size, 0, none⟩ = some u1 ∧ wq.cell? ⟨w.heap.size, 1, none⟩ = some u2 ∧ wq.cell? ⟨w.heap.size + 1, 0, none⟩ = some u3 ∧ wq.cell? ⟨w.heap.size + 1, 1, none⟩ = some u4) (h1 : Own (w.heap.size + 1 + 1 + 1) wq v1 r1) (h2 : Own (w.heap.size + 1 + 1 + 1) wq v2 r2) (ha : ApartV v1 v2) :
    Hid (JOut w u1 u2 u3 u4 ((wq.setCell ⟨g, 0, none⟩ v1).setCell ⟨g, 1, none⟩ v2) g v1 v2 r1 r2) :=
  ⟨(hz.set0 _).set1 _, own_setS h1 hz _ _, own_setS h2 hz _ _, ha, hJ.1.out.keepB (((Below.refl _ wq).setCell (p := ⟨g, 0, none⟩) hg _).setCell (p := ⟨g, 1, none⟩) hg _)⟩
theorem zkeep {w W W' : World} {x y : Value} {g : Nat} (hb : Below W.heap.size W W') (hz : Box2 29 W g x y) (hg : w.heap.size + 1 + 1 + 1 ≤ g) : Hid (Box2 29 W' g x y ∧ w.heap.size + 1 + 1 + 1 ≤ g) := ⟨hz.below hb, hg⟩
theorem results_js (F : Func) (hr : F.results = #[.cell 4 29, .tmp 5]) (tmps : Array Value) (w : World) (g : Nat) (v1 v2 : Value) (ok : Bool) (hg : Box2 29 w g v1 v2) (h2 : tmps.getD 4 undef = .pointer (some ⟨g, 0, none⟩)) (h3 : tmps.getD 5 undef = .bool ok) :
    (results F tmps).run Try.prog w = .ok (.tuple #[.agg #[v1, v2], .bool ok]) w := by
  have h2' : tmps[4]?.getD undef = .pointer (some ⟨g, 0, none⟩) := by simpa using h2
  have h3' : tmps[5]?.getD undef = .bool ok := by simpa using h3
  simp [results, hr, h2', h3', asAddr, run_loadSea w g v1 v2 hg]
set_option maxHeartbeats 8000000 in
set_option maxRecDepth 100000 in
theorem impl_js_no1 (t b p q : List Int) (w : World) (a1 a2 a3 a4 : Option Addr) (l1 l2 l3 l4 n1 n2 n3 n4 : Nat) (h1 : Rd w (.slice a1 l1 n1) t) (h2 : Rd w (.slice a2 l2 n2) b) (h3 : Rd w (.slice a3 l3 n3) p) (h4 : Rd w (.slice a4 l4 n4) q) (m1 : t.length ≤ 1048576) (m2 : b.length ≤ 1048576) (m3 : p.length ≤ 1048576) (m4 : q.length ≤ 1048576) (e1 : weedB t b = false) :
    Calls Try.prog 30 #[.agg #[.slice a1 l1 n1, .slice a2 l2 n2], .agg #[.slice a3 l3 n3, .slice a4 l4 n4]] w (GivesW w [] [] false) := by
  have hJ0 := JS.start w (.slice a1 l1 n1) (.slice a2 l2 n2) (.slice a3 l3 n3) (.slice a4 l4 n4)
  have ht1 := (fun (W : World) (hb : Below w.heap.size w W) => impl_IsSeaweed t b W _ _ (h1.below hb) (h2.below hb) m1 m2)
  unfold ok_IsSeaweed at ht1
  simp only [e1] at ht1
  have HT1 := Lib.hid ht1; have HJ := Lib.hid hJ0
  have k0 := hJ0.A.c0; have k1 := hJ0.A.c1; have k2 := hJ0.B.c0; have k3 := hJ0.B.c1
  clear hJ0 ht1 h1 h2 h3 h4 m1 m2 m3 m4 e1
  go_enter Try.func30, Try.ntmps30
  go_wp2_with fail
  generalize (((w.alloc (.cells #[.slice a1 l1 n1, .slice a2 l2 n2] 29)).alloc (.cells #[.slice a3 l3 n3, .slice a4 l4 n4] 29)).alloc (.cells #[.slice none 0 0, .slice none 0 0] 29)) = W at *
  refine (HT1.out _ HJ.out.bel).mono ?_
  rintro e w1 ⟨rfl, hb1⟩
  have HJ1 := Lib.hid (HJ.out.keep hb1)
  clear hb1 k0 k1 k2 k3
  have hJ := HJ1.out
  have g0 := hJ.R.c0; have g1 := hJ.R.c1; have g2 := hJ.R.free 0; have g3 := hJ.R.free 1
  have HN := sea_none (w := w) hJ.R hJ.bel (by omega)
  clear hJ
  go_wp2
  exact bodyPost_ret (results_js _ (by kernel_rfl) _ _ (w.heap.size + 1 + 1) _ _ false HN.out.1 rfl rfl) rfl ⟨_, _, rfl, Own.nil _ _, Own.nil _ _, ApartV.nil _, HN.out.2⟩
set_option maxHeartbeats 8000000 in
set_option maxRecDepth 100000 in
theorem impl_js_no2 (t b p q : List Int) (w : World) (a1 a2 a3 a4 : Option Addr) (l1 l2 l3 l4 n1 n2 n3 n4 : Nat) (h1 : Rd w (.slice a1 l1 n1) t) (h2 : Rd w (.slice a2 l2 n2) b) (h3 : Rd w (.slice a3 l3 n3) p) (h4 : Rd w (.slice a4 l4 n4) q) (m1 : t.length ≤ 1048576) (m2 : b.length ≤ 1048576) (m3 : p.length ≤ 1048576) (m4 : q.length ≤ 1048576) (e1 : weedB t b = true) (e2 : weedB p q = false) :
    Calls Try.prog 30 #[.agg #[.slice a1 l1 n1, .slice a2 l2 n2], .agg #[.slice a3 l3 n3, .slice a4 l4 n4]] w (GivesW w [] [] false) := by
  have hJ0 := JS.start w (.slice a1 l1 n1) (.slice a2 l2 n2) (.slice a3 l3 n3) (.slice a4 l4 n4)
  have ht1 := (fun (W : World) (hb : Below w.heap.size w W) => impl_IsSeaweed t b W _ _ (h1.below hb) (h2.below hb) m1 m2)
  have ht2 := (fun (W : World) (hb : Below w.heap.size w W) => impl_IsSeaweed p q W _ _ (h3.below hb) (h4.below hb) m3 m4)
  unfold ok_IsSeaweed at ht1 ht2
  simp only [e1] at ht1
  simp only [e2] at ht2
  have HT1 := Lib.hid ht1; have HT2 := Lib.hid ht2; have HJ := Lib.hid hJ0
  have k0 := hJ0.A.c0; have k1 := hJ0.A.c1; have k2 := hJ0.B.c0; have k3 := hJ0.B.c1
  clear hJ0 ht1 ht2 h1 h2 h3 h4 m1 m2 m3 m4 e1 e2
  go_enter Try.func30, Try.ntmps30
  go_wp2_with fail
  generalize (((w.alloc (.cells #[.slice a1 l1 n1, .slice a2 l2 n2] 29)).alloc (.cells #[.slice a3 l3 n3, .slice a4 l4 n4] 29)).alloc (.cells #[.slice none 0 0, .slice none 0 0] 29)) = W at *
  refine (HT1.out _ HJ.out.bel).mono ?_
  rintro e w1 ⟨rfl, hb1⟩
  have HJ1 := Lib.hid (HJ.out.keep hb1)
  clear hb1 k0 k1 k2 k3
  have k2 := HJ1.out.B.c0; have k3 := HJ1.out.B.c1
  go_wp2_with fail
  refine (HT2.out _ HJ1.out.bel).mono ?_
  rintro e w2 ⟨rfl, hb2⟩
  have HJ2 := Lib.hid (HJ1.out.keep hb2)
  clear hb2 k2 k3
  have hJ := HJ2.out
  have g0 := hJ.R.c0; have g1 := hJ.R.c1; have g2 := hJ.R.free 0; have g3 := hJ.R.free 1
  have HN := sea_none (w := w) hJ.R hJ.bel (by omega)
  clear hJ
  go_wp2
  exact bodyPost_ret (results_js _ (by kernel_rfl) _ _ (w.heap.size + 1 + 1) _ _ false HN.out.1 rfl rfl) rfl ⟨_, _, rfl, Own.nil _ _, Own.nil _ _, ApartV.nil _, HN.out.2⟩
set_option maxHeartbeats 8000000 in
set_option maxRecDepth 100000 in
theorem impl_js_no3 (t b p q : List Int) (w : World) (a1 a2 a3 a4 : Option Addr) (l1 l2 l3 l4 n1 n2 n3 n4 : Nat) (h1 : Rd w (.slice a1 l1 n1) t) (h2 : Rd w (.slice a2 l2 n2) b) (h3 : Rd w (.slice a3 l3 n3) p) (h4 : Rd w (.slice a4 l4 n4) q) (m1 : t.length ≤ 1048576) (m2 : b.length ≤ 1048576) (m3 : p.length ≤ 1048576) (m4 : q.length ≤ 1048576) (e1 : weedB t b = true) (e2 : weedB p q = true) (e3 : weedB (t ++ p) (b ++ q) = false) :
    Calls Try.prog 30 #[.agg #[.slice a1 l1 n1, .slice a2 l2 n2], .agg #[.slice a3 l3 n3, .slice a4 l4 n4]] w (GivesW w [] [] false) := by
  have hJ0 := JS.start w (.slice a1 l1 n1) (.slice a2 l2 n2) (.slice a3 l3 n3) (.slice a4 l4 n4)
  have ht1 := (fun (W : World) (hb : Below w.heap.size w W) => impl_IsSeaweed t b W _ _ (h1.below hb) (h2.below hb) m1 m2)
  have ht2 := (fun (W : World) (hb : Below w.heap.size w W) => impl_IsSeaweed p q W _ _ (h3.below hb) (h4.below hb) m3 m4)
  unfold ok_IsSeaweed at ht1 ht2
  simp only [e1] at ht1
  simp only [e2] at ht2
  have HT1 := Lib.hid ht1; have HT2 := Lib.hid ht2; have HJ := Lib.hid hJ0
  have k0 := hJ0.A.c0; have k1 := hJ0.A.c1; have k2 := hJ0.B.c0; have k3 := hJ0.B.c1
  have hl1 := weed_lens e1; have hl2 := weed_lens e2
  have ht3 := fun (W : World) v1 v2 (k1 : Rd W v1 (t ++ p)) (k2 : Rd W v2 (b ++ q)) => impl_IsSeaweed (t ++ p) (b ++ q) W v1 v2 k1 k2 (by rw [List.length_append]; omega) (by rw [List.length_append]; omega)
  unfold ok_IsSeaweed at ht3
  simp only [e3] at ht3
  have HT3 := Lib.hid ht3
  have ML : Hid (t.length ≤ 1000 ∧ b.length ≤ 1000 ∧ p.length ≤ 1000 ∧ q.length ≤ 1000) := by refine ⟨?_, ?_, ?_, ?_⟩ <;> omega
  have H1 := Lib.hid h1; have H2 := Lib.hid h2; have H3 := Lib.hid h3; have H4 := Lib.hid h4
  clear hJ0 ht1 ht2 ht3 h1 h2 h3 h4 m1 m2 m3 m4 e1 e2 e3 hl1 hl2
  go_enter Try.func30, Try.ntmps30
  go_wp2_with fail
  generalize (((w.alloc (.cells #[.slice a1 l1 n1, .slice a2 l2 n2] 29)).alloc (.cells #[.slice a3 l3 n3, .slice a4 l4 n4] 29)).alloc (.cells #[.slice none 0 0, .slice none 0 0] 29)) = W at *
  refine (HT1.out _ HJ.out.bel).mono ?_
  rintro e w1 ⟨rfl, hb1⟩
  have HJ1 := Lib.hid (HJ.out.keep hb1)
  clear hb1 k0 k1 k2 k3
  have k2 := HJ1.out.B.c0; have k3 := HJ1.out.B.c1
  go_wp2_with fail
  refine (HT2.out _ HJ1.out.bel).mono ?_
  rintro e wa ⟨rfl, hb2⟩
  have HJ2 := Lib.hid (HJ1.out.keep hb2)
  clear hb2 k2 k3 HJ HJ1
  have HLO := Lib.hid HJ2.out.size
  go_upto_region 3 with (fail)
  go_cut [6] (fun s6 wx => ∃ (g : Nat) (v1 v2 : Value), s6 = .pointer (some ⟨g, 0, none⟩) ∧ Hid (JOut w (.slice a1 l1 n1) (.slice a2 l2 n2) (.slice a3 l3 n3) (.slice a4 l4 n4) wx g v1 v2 (t ++ p) (b ++ q)))
  case first =>
    have hS := JS.to (HJ2.out.keep (Below.refl wa.heap.size wa).drew)
    go_region_held3 (fun w' => Hid (JS w (.slice a1 l1 n1) (.slice a2 l2 n2) (.slice a3 l3 n3) (.slice a4 l4 n4) w') ∧ w'.cell? ⟨w.heap.size, 0, none⟩ = some (.slice a1 l1 n1) ∧ w'.cell? ⟨w.heap.size, 1, none⟩ = some (.slice a2 l2 n2) ∧ w'.cell? ⟨w.heap.size + 1, 0, none⟩ = some (.slice a3 l3 n3) ∧ w'.cell? ⟨w.heap.size + 1, 1, none⟩ = some (.slice a4 l4 n4))
      (first | assumption | exact js_keep (by assumption) (by assumption) | exact js_setz (by assumption) HZ.out.2 | exact js_keep (by assumption) (Below.alloc1 _ _) | exact js_keep (js_keep (by assumption) (Below.alloc1 _ _)) (Below.alloc1 _ _))
      (first
        | (go_at_call 49; ((refine (concat_any _ (.slice a1 l1 n1) (.slice a3 l3 n3) t p _ (by first | exact lc0 _ _ _ _ _ rfl | exact ca (lc0 _ _ _ _ _ rfl) | exact lc1 _ _ _ _ _ _ rfl | exact ca (ca (lc0 _ _ _ _ _ rfl)) | exact ca (lc1 _ _ _ _ _ _ rfl) | exact lc2 _ _ _ _ _ _ _ rfl | exact HK1.out.1 | exact ca HK1.out.1) (by first | exact lc0 _ _ _ _ _ rfl | exact ca (lc0 _ _ _ _ _ rfl) | exact lc1 _ _ _ _ _ _ rfl | exact ca (ca (lc0 _ _ _ _ _ rfl)) | exact ca (lc1 _ _ _ _ _ _ rfl) | exact lc2 _ _ _ _ _ _ _ rfl | exact HK1.out.2 | exact ca HK1.out.2) (H1.out.below (js_bel (by assumption))) (H3.out.below (js_bel (by assumption))) ML.out.1 ML.out.2.2.1).mono ?_); rintro e w1 ⟨v1, rfl, ho1, hb1⟩; obtain ⟨x1, y1, z1, rfl⟩ := ho1.form'; (try (have HAP := Lib.hid (apart_of HV2.out ho1 (by exact Nat.le_refl _)))); (try (have HAP := Lib.hid (apart_of HV2.out ho1 (by exact Nat.le_of_lt (alloc_lt _ _))))); (try (have HAP := Lib.hid (apart_of HV2.out ho1 (by exact Nat.le_trans (Nat.le_of_lt (alloc_lt _ _)) (Nat.le_of_lt (alloc_lt _ _)))))); (try (have HV2 := Lib.hid (HV2.out.below hb1))); (try (have HV2 := Lib.hid ((HV2.out.below (Below.alloc1 _ _)).below hb1))); (try (have HV2 := Lib.hid (((HV2.out.below (Below.alloc1 _ _)).below (Below.alloc1 _ _)).below hb1))); have HV1 := Lib.hid (ho1.mono (js_size (by assumption))); (try (have HK2 := Lib.hid (keep2 (a := .slice a2 l2 n2) (b := .slice a4 l4 n4) hb1 (by first | exact lc2 _ _ _ _ _ _ _ rfl | exact ca (lc1 _ _ _ _ _ _ rfl) | exact lc1 _ _ _ _ _ _ rfl | exact ca (ca (lc0 _ _ _ _ _ rfl)) | exact ca (lc0 _ _ _ _ _ rfl) | exact lc0 _ _ _ _ _ rfl) (by first | exact lc2 _ _ _ _ _ _ _ rfl | exact ca (lc1 _ _ _ _ _ _ rfl) | exact lc1 _ _ _ _ _ _ rfl | exact ca (ca (lc0 _ _ _ _ _ rfl)) | exact ca (lc0 _ _ _ _ _ rfl) | exact lc0 _ _ _ _ _ rfl)))); (try (have HZ := zkeep (w := w) (x := (.slice none 0 0)) (y := (.slice none 0 0)) hb1 (by first | exact boxAt2 _ _ _ _ _ _ | exact Box2.at1 _ _ _ _ _ | exact Box2.new _ _ _ _ | exact (Box2.at1 _ _ _ _ _).below (Below.alloc1 _ _) | exact (Box2.at1 _ _ _ _ _).below (Below.alloc1 _ _).drew | exact (Box2.new _ _ _ _).below (Below.alloc1 _ _) | exact (Box2.new _ _ _ _).below (Below.alloc1 _ _).drew | exact ((Box2.new _ _ _ _).below (Below.alloc1 _ _)).below (Below.alloc1 _ _) | exact ((Box2.new _ _ _ _).below (Below.alloc1 _ _)).below (Below.alloc1 _ _).drew | exact HZ.out.1 | exact HZ.out.1.below (Below.alloc1 _ _)) (by first | exact HLO.out | exact Nat.le_succ_of_le HLO.out | exact Nat.le_succ_of_le (Nat.le_succ_of_le HLO.out) | exact js_size (by assumption) | exact Nat.le_succ_of_le (js_size (by assumption)) | exact Nat.le_succ_of_le (Nat.le_succ_of_le (js_size (by assumption))) | exact HZ.out.2); have q0 := HZ.out.1.c0; have q1 := HZ.out.1.c1; have q2 := HZ.out.1.free 0; have q3 := HZ.out.1.free 1)); have hS1 := js_keep (by assumption) hb1; clear hb1 ho1))
        | (go_at_call 49; ((refine (concat_any _ (.slice a2 l2 n2) (.slice a4 l4 n4) b q _ (by first | exact lc0 _ _ _ _ _ rfl | exact ca (lc0 _ _ _ _ _ rfl) | exact lc1 _ _ _ _ _ _ rfl | exact ca (ca (lc0 _ _ _ _ _ rfl)) | exact ca (lc1 _ _ _ _ _ _ rfl) | exact lc2 _ _ _ _ _ _ _ rfl | exact HK2.out.1 | exact ca HK2.out.1) (by first | exact lc0 _ _ _ _ _ rfl | exact ca (lc0 _ _ _ _ _ rfl) | exact lc1 _ _ _ _ _ _ rfl | exact ca (ca (lc0 _ _ _ _ _ rfl)) | exact ca (lc1 _ _ _ _ _ _ rfl) | exact lc2 _ _ _ _ _ _ _ rfl | exact HK2.out.2 | exact ca HK2.out.2) (H2.out.below (js_bel (by assumption))) (H4.out.below (js_bel (by assumption))) ML.out.2.1 ML.out.2.2.2).mono ?_); rintro e w2 ⟨v2, rfl, ho2, hb2⟩; obtain ⟨x2, y2, z2, rfl⟩ := ho2.form'; (try (have HAP := Lib.hid (apart_of HV1.out ho2 (by exact Nat.le_refl _)))); (try (have HAP := Lib.hid (apart_of HV1.out ho2 (by exact Nat.le_of_lt (alloc_lt _ _))))); (try (have HAP := Lib.hid (apart_of HV1.out ho2 (by exact Nat.le_trans (Nat.le_of_lt (alloc_lt _ _)) (Nat.le_of_lt (alloc_lt _ _)))))); (try (have HV1 := Lib.hid (HV1.out.below hb2))); (try (have HV1 := Lib.hid ((HV1.out.below (Below.alloc1 _ _)).below hb2))); (try (have HV1 := Lib.hid (((HV1.out.below (Below.alloc1 _ _)).below (Below.alloc1 _ _)).below hb2))); have HV2 := Lib.hid (ho2.mono (js_size (by assumption))); (try (have HK1 := Lib.hid (keep2 (a := .slice a1 l1 n1) (b := .slice a3 l3 n3) hb2 (by first | exact lc2 _ _ _ _ _ _ _ rfl | exact ca (lc1 _ _ _ _ _ _ rfl) | exact lc1 _ _ _ _ _ _ rfl | exact ca (ca (lc0 _ _ _ _ _ rfl)) | exact ca (lc0 _ _ _ _ _ rfl) | exact lc0 _ _ _ _ _ rfl) (by first | exact lc2 _ _ _ _ _ _ _ rfl | exact ca (lc1 _ _ _ _ _ _ rfl) | exact lc1 _ _ _ _ _ _ rfl | exact ca (ca (lc0 _ _ _ _ _ rfl)) | exact ca (lc0 _ _ _ _ _ rfl) | exact lc0 _ _ _ _ _ rfl)))); (try (have HZ := zkeep (w := w) (x := (.slice none 0 0)) (y := (.slice none 0 0)) hb2 (by first | exact boxAt2 _ _ _ _ _ _ | exact Box2.at1 _ _ _ _ _ | exact Box2.new _ _ _ _ | exact (Box2.at1 _ _ _ _ _).below (Below.alloc1 _ _) | exact (Box2.at1 _ _ _ _ _).below (Below.alloc1 _ _).drew | exact (Box2.new _ _ _ _).below (Below.alloc1 _ _) | exact (Box2.new _ _ _ _).below (Below.alloc1 _ _).drew | exact ((Box2.new _ _ _ _).below (Below.alloc1 _ _)).below (Below.alloc1 _ _) | exact ((Box2.new _ _ _ _).below (Below.alloc1 _ _)).below (Below.alloc1 _ _).drew | exact HZ.out.1 | exact HZ.out.1.below (Below.alloc1 _ _)) (by first | exact HLO.out | exact Nat.le_succ_of_le HLO.out | exact Nat.le_succ_of_le (Nat.le_succ_of_le HLO.out) | exact js_size (by assumption) | exact Nat.le_succ_of_le (js_size (by assumption)) | exact Nat.le_succ_of_le (Nat.le_succ_of_le (js_size (by assumption))) | exact HZ.out.2); have q0 := HZ.out.1.c0; have q1 := HZ.out.1.c1; have q2 := HZ.out.1.free 0; have q3 := HZ.out.1.free 1)); have hS2 := js_keep (by assumption) hb2; clear hb2 ho2)))
    all_goals
      go_wp2_with fail
      go_meet
      first
        | exact ⟨_, _, _, rfl, jm_new (by assumption) HV1.out HV2.out (fun k hk hk' => by first | exact HAP.out k hk hk' | exact HAP.out k hk' hk)⟩
        | exact ⟨_, _, _, rfl, jm_set HZ.out.1 HZ.out.2 (by assumption) HV1.out HV2.out (fun k hk hk' => by first | exact HAP.out k hk hk' | exact HAP.out k hk' hk)⟩
  obtain ⟨g, v1, v2, rfl, HO⟩ := hcut
  generalize wc = wq at *
  obtain ⟨x1, y1, z1, rfl⟩ := HO.out.2.1.form'; obtain ⟨x2, y2, z2, rfl⟩ := HO.out.2.2.1.form'
  have r0 := HO.out.1.c0; have r1 := HO.out.1.c1
  have HT4 := Lib.hid (HT3.out wq _ _ HO.out.2.1.rd HO.out.2.2.1.rd)
  go_wp2_with fail
  refine HT4.out.mono ?_
  rintro e w5 ⟨rfl, hb5⟩
  have HJ5 := Lib.hid (HO.out.2.2.2.2.keep hb5)
  clear hb5 r0 r1
  have hJ := HJ5.out
  have g0 := hJ.R.c0; have g1 := hJ.R.c1; have g2 := hJ.R.free 0; have g3 := hJ.R.free 1
  have HN := sea_none (w := w) hJ.R hJ.bel (by omega)
  clear hJ
  go_wp2
  exact bodyPost_ret (results_js _ (by kernel_rfl) _ _ (w.heap.size + 1 + 1) _ _ false HN.out.1 rfl rfl) rfl ⟨_, _, rfl, Own.nil _ _, Own.nil _ _, ApartV.nil _, HN.out.2⟩
set_option maxHeartbeats 8000000 in
set_option maxRecDepth 100000 in
theorem impl_js_yes (t b p q : List Int) (w : World) (a1 a2 a3 a4 : Option Addr) (l1 l2 l3 l4 n1 n2 n3 n4 : Nat) (h1 : Rd w (.slice a1 l1 n1) t) (h2 : Rd w (.slice a2 l2 n2) b) (h3 : Rd w (.slice a3 l3 n3) p) (h4 : Rd w (.slice a4 l4 n4) q) (m1 : t.length ≤ 1048576) (m2 : b.length ≤ 1048576) (m3 : p.length ≤ 1048576) (m4 : q.length ≤ 1048576) (e1 : weedB t b = true) (e2 : weedB p q = true) (e3 : weedB (t ++ p) (b ++ q) = true) :
    Calls Try.prog 30 #[.agg #[.slice a1 l1 n1, .slice a2 l2 n2], .agg #[.slice a3 l3 n3, .slice a4 l4 n4]] w (GivesW w (t ++ p) (b ++ q) true) := by
  have hJ0 := JS.start w (.slice a1 l1 n1) (.slice a2 l2 n2) (.slice a3 l3 n3) (.slice a4 l4 n4)
  have ht1 := (fun (W : World) (hb : Below w.heap.size w W) => impl_IsSeaweed t b W _ _ (h1.below hb) (h2.below hb) m1 m2)
  have ht2 := (fun (W : World) (hb : Below w.heap.size w W) => impl_IsSeaweed p q W _ _ (h3.below hb) (h4.below hb) m3 m4)
  unfold ok_IsSeaweed at ht1 ht2
  simp only [e1] at ht1
  simp only [e2] at ht2
  have HT1 := Lib.hid ht1; have HT2 := Lib.hid ht2; have HJ := Lib.hid hJ0
  have k0 := hJ0.A.c0; have k1 := hJ0.A.c1; have k2 := hJ0.B.c0; have k3 := hJ0.B.c1
  have hl1 := weed_lens e1; have hl2 := weed_lens e2
  have ht3 := fun (W : World) v1 v2 (k1 : Rd W v1 (t ++ p)) (k2 : Rd W v2 (b ++ q)) => impl_IsSeaweed (t ++ p) (b ++ q) W v1 v2 k1 k2 (by rw [List.length_append]; omega) (by rw [List.length_append]; omega)
  unfold ok_IsSeaweed at ht3
  simp only [e3] at ht3
  have HT3 := Lib.hid ht3
  have ML : Hid (t.length ≤ 1000 ∧ b.length ≤ 1000 ∧ p.length ≤ 1000 ∧ q.length ≤ 1000) := by refine ⟨?_, ?_, ?_, ?_⟩ <;> omega
  have H1 := Lib.hid h1; have H2 := Lib.hid h2; have H3 := Lib.hid h3; have H4 := Lib.hid h4
  clear hJ0 ht1 ht2 ht3 h1 h2 h3 h4 m1 m2 m3 m4 e1 e2 e3 hl1 hl2
  go_enter Try.func30, Try.ntmps30
  go_wp2_with fail
  generalize (((w.alloc (.cells #[.slice a1 l1 n1, .slice a2 l2 n2] 29)).alloc (.cells #[.slice a3 l3 n3, .slice a4 l4 n4] 29)).alloc (.cells #[.slice none 0 0, .slice none 0 0] 29)) = W at *
  refine (HT1.out _ HJ.out.bel).mono ?_
  rintro e w1 ⟨rfl, hb1⟩
  have HJ1 := Lib.hid (HJ.out.keep hb1)
  clear hb1 k0 k1 k2 k3
  have k2 := HJ1.out.B.c0; have k3 := HJ1.out.B.c1
  go_wp2_with fail
  refine (HT2.out _ HJ1.out.bel).mono ?_
  rintro e wa ⟨rfl, hb2⟩
  have HJ2 := Lib.hid (HJ1.out.keep hb2)
  clear hb2 k2 k3 HJ HJ1
  have HLO := Lib.hid HJ2.out.size
  go_upto_region 3 with (fail)
  go_cut [6] (fun s6 wx => ∃ (g : Nat) (v1 v2 : Value), s6 = .pointer (some ⟨g, 0, none⟩) ∧ Hid (JOut w (.slice a1 l1 n1) (.slice a2 l2 n2) (.slice a3 l3 n3) (.slice a4 l4 n4) wx g v1 v2 (t ++ p) (b ++ q)))
  case first =>
    have hS := JS.to (HJ2.out.keep (Below.refl wa.heap.size wa).drew)
    go_region_held3 (fun w' => Hid (JS w (.slice a1 l1 n1) (.slice a2 l2 n2) (.slice a3 l3 n3) (.slice a4 l4 n4) w') ∧ w'.cell? ⟨w.heap.size, 0, none⟩ = some (.slice a1 l1 n1) ∧ w'.cell? ⟨w.heap.size, 1, none⟩ = some (.slice a2 l2 n2) ∧ w'.cell? ⟨w.heap.size + 1, 0, none⟩ = some (.slice a3 l3 n3) ∧ w'.cell? ⟨w.heap.size + 1, 1, none⟩ = some (.slice a4 l4 n4))
      (first | assumption | exact js_keep (by assumption) (by assumption) | exact js_setz (by assumption) HZ.out.2 | exact js_keep (by assumption) (Below.alloc1 _ _) | exact js_keep (js_keep (by assumption) (Below.alloc1 _ _)) (Below.alloc1 _ _))
      (first
        | (go_at_call 49; ((refine (concat_any _ (.slice a1 l1 n1) (.slice a3 l3 n3) t p _ (by first | exact lc0 _ _ _ _ _ rfl | exact ca (lc0 _ _ _ _ _ rfl) | exact lc1 _ _ _ _ _ _ rfl | exact ca (ca (lc0 _ _ _ _ _ rfl)) | exact ca (lc1 _ _ _ _ _ _ rfl) | exact lc2 _ _ _ _ _ _ _ rfl | exact HK1.out.1 | exact ca HK1.out.1) (by first | exact lc0 _ _ _ _ _ rfl | exact ca (lc0 _ _ _ _ _ rfl) | exact lc1 _ _ _ _ _ _ rfl | exact ca (ca (lc0 _ _ _ _ _ rfl)) | exact ca (lc1 _ _ _ _ _ _ rfl) | exact lc2 _ _ _ _ _ _ _ rfl | exact HK1.out.2 | exact ca HK1.out.2) (H1.out.below (js_bel (by assumption))) (H3.out.below (js_bel (by assumption))) ML.out.1 ML.out.2.2.1).mono ?_); rintro e w1 ⟨v1, rfl, ho1, hb1⟩; obtain ⟨x1, y1, z1, rfl⟩ := ho1.form'; (try (have HAP := Lib.hid (apart_of HV2.out ho1 (by exact Nat.le_refl _)))); (try (have HAP := Lib.hid (apart_of HV2.out ho1 (by exact Nat.le_of_lt (alloc_lt _ _))))); (try (have HAP := Lib.hid (apart_of HV2.out ho1 (by exact Nat.le_trans (Nat.le_of_lt (alloc_lt _ _)) (Nat.le_of_lt (alloc_lt _ _)))))); (try (have HV2 := Lib.hid (HV2.out.below hb1))); (try (have HV2 := Lib.hid ((HV2.out.below (Below.alloc1 _ _)).below hb1))); (try (have HV2 := Lib.hid (((HV2.out.below (Below.alloc1 _ _)).below (Below.alloc1 _ _)).below hb1))); have HV1 := Lib.hid (ho1.mono (js_size (by assumption))); (try (have HK2 := Lib.hid (keep2 (a := .slice a2 l2 n2) (b := .slice a4 l4 n4) hb1 (by first | exact lc2 _ _ _ _ _ _ _ rfl | exact ca (lc1 _ _ _ _ _ _ rfl) | exact lc1 _ _ _ _ _ _ rfl | exact ca (ca (lc0 _ _ _ _ _ rfl)) | exact ca (lc0 _ _ _ _ _ rfl) | exact lc0 _ _ _ _ _ rfl) (by first | exact lc2 _ _ _ _ _ _ _ rfl | exact ca (lc1 _ _ _ _ _ _ rfl) | exact lc1 _ _ _ _ _ _ rfl | exact ca (ca (lc0 _ _ _ _ _ rfl)) | exact ca (lc0 _ _ _ _ _ rfl) | exact lc0 _ _ _ _ _ rfl)))); (try (have HZ := zkeep (w := w) (x := (.slice none 0 0)) (y := (.slice none 0 0)) hb1 (by first | exact boxAt2 _ _ _ _ _ _ | exact Box2.at1 _ _ _ _ _ | exact Box2.new _ _ _ _ | exact (Box2.at1 _ _ _ _ _).below (Below.alloc1 _ _) | exact (Box2.at1 _ _ _ _ _).below (Below.alloc1 _ _).drew | exact (Box2.new _ _ _ _).below (Below.alloc1 _ _) | exact (Box2.new _ _ _ _).below (Below.alloc1 _ _).drew | exact ((Box2.new _ _ _ _).below (Below.alloc1 _ _)).below (Below.alloc1 _ _) | exact ((Box2.new _ _ _ _).below (Below.alloc1 _ _)).below (Below.alloc1 _ _).drew | exact HZ.out.1 | exact HZ.out.1.below (Below.alloc1 _ _)) (by first | exact HLO.out | exact Nat.le_succ_of_le HLO.out | exact Nat.le_succ_of_le (Nat.le_succ_of_le HLO.out) | exact js_size (by assumption) | exact Nat.le_succ_of_le (js_size (by assumption)) | exact Nat.le_succ_of_le (Nat.le_succ_of_le (js_size (by assumption))) | exact HZ.out.2); have q0 := HZ.out.1.c0; have q1 := HZ.out.1.c1; have q2 := HZ.out.1.free 0; have q3 := HZ.out.1.free 1)); have hS1 := js_keep (by assumption) hb1; clear hb1 ho1))
        | (go_at_call 49; ((refine (concat_any _ (.slice a2 l2 n2) (.slice a4 l4 n4) b q _ (by first | exact lc0 _ _ _ _ _ rfl | exact ca (lc0 _ _ _ _ _ rfl) | exact lc1 _ _ _ _ _ _ rfl | exact ca (ca (lc0 _ _ _ _ _ rfl)) | exact ca (lc1 _ _ _ _ _ _ rfl) | exact lc2 _ _ _ _ _ _ _ rfl | exact HK2.out.1 | exact ca HK2.out.1) (by first | exact lc0 _ _ _ _ _ rfl | exact ca (lc0 _ _ _ _ _ rfl) | exact lc1 _ _ _ _ _ _ rfl | exact ca (ca (lc0 _ _ _ _ _ rfl)) | exact ca (lc1 _ _ _ _ _ _ rfl) | exact lc2 _ _ _ _ _ _ _ rfl | exact HK2.out.2 | exact ca HK2.out.2) (H2.out.below (js_bel (by assumption))) (H4.out.below (js_bel (by assumption))) ML.out.2.1 ML.out.2.2.2).mono ?_); rintro e w2 ⟨v2, rfl, ho2, hb2⟩; obtain ⟨x2, y2, z2, rfl⟩ := ho2.form'; (try (have HAP := Lib.hid (apart_of HV1.out ho2 (by exact Nat.le_refl _)))); (try (have HAP := Lib.hid (apart_of HV1.out ho2 (by exact Nat.le_of_lt (alloc_lt _ _))))); (try (have HAP := Lib.hid (apart_of HV1.out ho2 (by exact Nat.le_trans (Nat.le_of_lt (alloc_lt _ _)) (Nat.le_of_lt (alloc_lt _ _)))))); (try (have HV1 := Lib.hid (HV1.out.below hb2))); (try (have HV1 := Lib.hid ((HV1.out.below (Below.alloc1 _ _)).below hb2))); (try (have HV1 := Lib.hid (((HV1.out.below (Below.alloc1 _ _)).below (Below.alloc1 _ _)).below hb2))); have HV2 := Lib.hid (ho2.mono (js_size (by assumption))); (try (have HK1 := Lib.hid (keep2 (a := .slice a1 l1 n1) (b := .slice a3 l3 n3) hb2 (by first | exact lc2 _ _ _ _ _ _ _ rfl | exact ca (lc1 _ _ _ _ _ _ rfl) | exact lc1 _ _ _ _ _ _ rfl | exact ca (ca (lc0 _ _ _ _ _ rfl)) | exact ca (lc0 _ _ _ _ _ rfl) | exact lc0 _ _ _ _ _ rfl) (by first | exact lc2 _ _ _ _ _ _ _ rfl | exact ca (lc1 _ _ _ _ _ _ rfl) | exact lc1 _ _ _ _ _ _ rfl | exact ca (ca (lc0 _ _ _ _ _ rfl)) | exact ca (lc0 _ _ _ _ _ rfl) | exact lc0 _ _ _ _ _ rfl)))); (try (have HZ := zkeep (w := w) (x := (.slice none 0 0)) (y := (.slice none 0 0)) hb2 (by first | exact boxAt2 _ _ _ _ _ _ | exact Box2.at1 _ _ _ _ _ | exact Box2.new _ _ _ _ | exact (Box2.at1 _ _ _ _ _).below (Below.alloc1 _ _) | exact (Box2.at1 _ _ _ _ _).below (Below.alloc1 _ _).drew | exact (Box2.new _ _ _ _).below (Below.alloc1 _ _) | exact (Box2.new _ _ _ _).below (Below.alloc1 _ _).drew | exact ((Box2.new _ _ _ _).below (Below.alloc1 _ _)).below (Below.alloc1 _ _) | exact ((Box2.new _ _ _ _).below (Below.alloc1 _ _)).below (Below.alloc1 _ _).drew | exact HZ.out.1 | exact HZ.out.1.below (Below.alloc1 _ _)) (by first | exact HLO.out | exact Nat.le_succ_of_le HLO.out | exact Nat.le_succ_of_le (Nat.le_succ_of_le HLO.out) | exact js_size (by assumption) | exact Nat.le_succ_of_le (js_size (by assumption)) | exact Nat.le_succ_of_le (Nat.le_succ_of_le (js_size (by assumption))) | exact HZ.out.2); have q0 := HZ.out.1.c0; have q1 := HZ.out.1.c1; have q2 := HZ.out.1.free 0; have q3 := HZ.out.1.free 1)); have hS2 := js_keep (by assumption) hb2; clear hb2 ho2)))
    all_goals
      go_wp2_with fail
      go_meet
      first
        | exact ⟨_, _, _, rfl, jm_new (by assumption) HV1.out HV2.out (fun k hk hk' => by first | exact HAP.out k hk hk' | exact HAP.out k hk' hk)⟩
        | exact ⟨_, _, _, rfl, jm_set HZ.out.1 HZ.out.2 (by assumption) HV1.out HV2.out (fun k hk hk' => by first | exact HAP.out k hk hk' | exact HAP.out k hk' hk)⟩
  obtain ⟨g, v1, v2, rfl, HO⟩ := hcut
  generalize wc = wq at *
  obtain ⟨x1, y1, z1, rfl⟩ := HO.out.2.1.form'; obtain ⟨x2, y2, z2, rfl⟩ := HO.out.2.2.1.form'
  have r0 := HO.out.1.c0; have r1 := HO.out.1.c1
  have HT4 := Lib.hid (HT3.out wq _ _ HO.out.2.1.rd HO.out.2.2.1.rd)
  go_wp2_with fail
  refine HT4.out.mono ?_
  rintro e w5 ⟨rfl, hb5⟩
  have HJ5 := Lib.hid (HO.out.2.2.2.2.keep hb5)
  have HX := Lib.hid (HO.out.1.below hb5); have HV1 := Lib.hid (HO.out.2.1.below hb5); have HV2 := Lib.hid (HO.out.2.2.1.below hb5)
  clear hb5 r0 r1
  have r0 := HX.out.c0; have r1 := HX.out.c1; have g0 := HJ5.out.R.c0; have g1 := HJ5.out.R.c1; have g2 := HJ5.out.R.free 0; have g3 := HJ5.out.R.free 1
  have HF := sea_stored HJ5.out.R HJ5.out.bel (by omega) (by omega) HV1.out HV2.out HO.out.2.2.2.1 (by omega)
  go_wp2
  exact bodyPost_ret (results_js _ (by kernel_rfl) _ _ (w.heap.size + 1 + 1) _ _ true HF.out.1 rfl rfl) rfl ⟨_, _, rfl, HF.out.2.1, HF.out.2.2.1, HF.out.2.2.2.1, HF.out.2.2.2.2⟩
theorem impl_JoinSeaweeds (t b p q : List Int) (w : World) (u1 u2 u3 u4 : Value) (h1 : Rd w u1 t) (h2 : Rd w u2 b) (h3 : Rd w u3 p) (h4 : Rd w u4 q) (m1 : t.length ≤ 1048576) (m2 : b.length ≤ 1048576) (m3 : p.length ≤ 1048576) (m4 : q.length ≤ 1048576) :
    Calls Try.prog 30 #[.agg #[u1, u2], .agg #[u3, u4]] w (GivesW w (res1_JoinSeaweeds t b p q) (res2_JoinSeaweeds t b p q) (ok_JoinSeaweeds t b p q)) := by
  unfold res1_JoinSeaweeds res2_JoinSeaweeds ok_JoinSeaweeds
  have k1 := h1; have k2 := h2; have k3 := h3; have k4 := h4
  obtain ⟨a1, n1, rfl, _⟩ := k1
  obtain ⟨a2, n2, rfl, _⟩ := k2
  obtain ⟨a3, n3, rfl, _⟩ := k3
  obtain ⟨a4, n4, rfl, _⟩ := k4
  cases e1 : weedB t b with
  | false => exact impl_js_no1 t b p q w a1 a2 a3 a4 _ _ _ _ n1 n2 n3 n4 h1 h2 h3 h4 m1 m2 m3 m4 e1
  | true =>
    cases e2 : weedB p q with
    | false => exact impl_js_no2 t b p q w a1 a2 a3 a4 _ _ _ _ n1 n2 n3 n4 h1 h2 h3 h4 m1 m2 m3 m4 e1 e2
    | true =>
      cases e3 : weedB (t ++ p) (b ++ q) with
      | false => exact impl_js_no3 t b p q w a1 a2 a3 a4 _ _ _ _ n1 n2 n3 n4 h1 h2 h3 h4 m1 m2 m3 m4 e1 e2 e3
      | true => exact impl_js_yes t b p q w a1 a2 a3 a4 _ _ _ _ n1 n2 n3 n4 h1 h2 h3 h4 m1 m2 m3 m4 e1 e2 e3
end Go.Proofs.Ytgaaddfipkdlaaa
