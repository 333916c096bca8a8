/- FlipSeaweed. -/
import Derived.Test.YtllhdmpnjcemkaaWeedMake
import Derived.Test.YtllhdmpnjcemkaaShift
namespace Go.Proofs.Ytllhdmpnjcemkaa
open Go.RowKit
set_option linter.unusedSimpArgs false
set_option linter.unusedVariables false

/-- a function that gives a seaweed out of a variable, and a bool -/
theorem results_sea (F : Func) (hr : F.results = #[.cell 2 27, .tmp 3]) (tmps : Array Value) (w : World) (g : Nat) (v1 v2 : Value) (ok : Bool) (hg : Box2 27 w g v1 v2) (h2 : tmps.getD 2 undef = .pointer (some ⟨g, 0, none⟩)) (h3 : tmps.getD 3 undef = .bool ok) :
    (results F tmps).run Try.prog w = .ok (.tuple #[.agg #[v1, v2], .bool ok]) w := by
  have h2' : tmps[2]?.getD undef = .pointer (some ⟨g, 0, none⟩) := by simpa using h2
  have h3' : tmps[3]?.getD undef = .bool ok := by simpa using h3
  simp [results, hr, h2', h3', asAddr, run_loadSea w g v1 v2 hg]
def res1_FlipSeaweed (t b : List Int) : List Int := if weedB t b then b else []
def res2_FlipSeaweed (t b : List Int) : List Int := if weedB t b then t else []
def ok_FlipSeaweed (t b : List Int) : Bool := weedB t b
theorem weed_lens {t b : List Int} (h : weedB t b = true) : t.length ≤ 20 ∧ b.length ≤ 20 := ⟨(parts_facts (weed_facts h).1).2.2.1, (parts_facts (weed_facts h).2.1).2.2.1⟩
theorem len_FlipSeaweed (t b : List Int) : (res1_FlipSeaweed t b).length ≤ 1000000 ∧ (res2_FlipSeaweed t b).length ≤ 1000000 := by
  unfold res1_FlipSeaweed res2_FlipSeaweed
  split
  · next h => have := weed_lens h; omega
  · simp
/-- a seaweed in a variable under two stores from two slices of its own making -/
theorem sea_stored {w W : World} {g : Nat} {r1 r2 v1 v2 : Value} {l1 l2 : List Int} {B : Nat} (HR : Box2 27 W g r1 r2) (HB : Below w.heap.size w W) (hg : w.heap.size ≤ g) (hgB : g < B) (O1 : Own B W v1 l1) (O2 : Own B W v2 l2) (AP : ApartV v1 v2) (hB : w.heap.size ≤ B) :
    Hid (Box2 27 ((W.setCell ⟨g, 0, none⟩ v1).setCell ⟨g, 1, none⟩ v2) g v1 v2 ∧ Own w.heap.size ((W.setCell ⟨g, 0, none⟩ v1).setCell ⟨g, 1, none⟩ v2) v1 l1 ∧ Own w.heap.size ((W.setCell ⟨g, 0, none⟩ v1).setCell ⟨g, 1, none⟩ v2) v2 l2 ∧ ApartV v1 v2 ∧ Below w.heap.size w ((W.setCell ⟨g, 0, none⟩ v1).setCell ⟨g, 1, none⟩ v2)) :=
  ⟨(HR.set0 _).set1 _, (O1.set2 hgB v1 v2).mono hB, (O2.set2 hgB v1 v2).mono hB, AP, (HB.setCell (p := ⟨g, 0, none⟩) hg v1).setCell (p := ⟨g, 1, none⟩) hg v2⟩
/-- .. where there is none -/
theorem sea_none {w W : World} {g : Nat} {r1 r2 : Value} (HR : Box2 27 W g r1 r2) (HB : Below w.heap.size w W) (hg : w.heap.size ≤ g) :
    Hid (Box2 27 ((W.setCell ⟨g, 0, none⟩ (.slice none 0 0)).setCell ⟨g, 1, none⟩ (.slice none 0 0)) g (.slice none 0 0) (.slice none 0 0) ∧ Below w.heap.size w ((W.setCell ⟨g, 0, none⟩ (.slice none 0 0)).setCell ⟨g, 1, none⟩ (.slice none 0 0))) :=
  ⟨(HR.set0 _).set1 _, (HB.setCell (p := ⟨g, 0, none⟩) hg _).setCell (p := ⟨g, 1, none⟩) hg _⟩
theorem results_fb (tmps : Array Value) (w : World) (g : Nat) (v1 v2 : Value) (hg : Box2 53 w g v1 v2) (h2 : tmps.getD 4 undef = .pointer (some ⟨g, 0, none⟩)) :
    (results Try.f47 tmps).run Try.prog w = .ok (.agg #[v1, v2]) w :=
  results_cell_row (by kernel_rfl) tmps w g _ #[v1, v2] _ _ h2 hg Try.underlying53 rfl (by rw [weed_info]; rfl)
theorem Box2.at2 (T : TypeId) (w : World) (o o' : Obj) (v1 v2 : Value) : Box2 T (((w.alloc o).alloc o').alloc (.cells #[v1, v2] T)) (w.heap.size + 1 + 1) v1 v2 := by
  have h := Box2.new T ((w.alloc o).alloc o') v1 v2
  rw [World.size_alloc, World.size_alloc] at h; exact h
set_option maxHeartbeats 1000000 in
theorem flip_any (a1 a2 : Option Addr) (n1 n2 c1 c2 : Nat) (w : World) :
    Calls Try.prog 47 #[.agg #[], .agg #[.slice a1 n1 c1, .slice a2 n2 c2]] w fun e w' => e = .returned (.agg #[.slice a2 n2 c2, .slice a1 n1 c1]) ∧ Below w.heap.size w w' := by
  go_enter Try.func47, Try.ntmps47
  go_wp2
  exact bodyPost_ret (results_fb _ _ (w.heap.size + 1 + 1) _ _ (Box2.at2 _ w _ _ _ _) rfl) rfl ⟨rfl, Below.step (Below.step (Below.alloc1 w _) (Below.alloc1 _ _)) (Below.alloc1 _ _)⟩

set_option maxHeartbeats 4000000 in
theorem impl_FlipSeaweed (t b : List Int) (w : World) (u1 u2 : Value) (h1 : Rd w u1 t) (h2 : Rd w u2 b) (m1 : t.length ≤ 1048576) (m2 : b.length ≤ 1048576) :
    Calls Try.prog 24 #[.agg #[u1, u2]] w (GivesW w (res1_FlipSeaweed t b) (res2_FlipSeaweed t b) (ok_FlipSeaweed t b)) := by
  unfold res1_FlipSeaweed res2_FlipSeaweed ok_FlipSeaweed
  have B1 := below2 w (.cells #[u1, u2] 27) (.cells #[.slice none 0 0, .slice none 0 0] 27)
  have hA := Box2.below (Box2.new 27 w u1 u2) (Below.alloc1 _ (.cells #[.slice none 0 0, .slice none 0 0] 27))
  have hP := Box2.at1 27 w (.cells #[u1, u2] 27) (.slice none 0 0) (.slice none 0 0)
  have k0 := hA.c0; have k1 := hA.c1
  have HP := Lib.hid hP; have HB := Lib.hid B1
  have g1 := h1.below B1; have g2 := h2.below B1
  obtain ⟨a1, n1, rfl, _⟩ := h1
  obtain ⟨a2, n2, rfl, _⟩ := h2
  cases e : weedB t b with
  | true =>
    have hl := weed_lens e
    rw [if_pos rfl, if_pos rfl]
    have HR := Lib.hid (readWeed_yes t b _ _ _ g1 g2 e)
    have c := fun W hb => weedSeaweed_any b t W _ _ (g2.below hb) (g1.below hb) (by omega) (by omega)
    have HC := Lib.hid c
    clear hA hP B1 e g1 g2 m1 m2 c hl
    generalize t.length = l1 at *
    generalize b.length = l2 at *
    go_enter Try.func24, Try.ntmps24
    go_wp2_with fail
    generalize ((w.alloc (.cells #[.slice a1 l1 n1, .slice a2 l2 n2] 27)).alloc (.cells #[.slice none 0 0, .slice none 0 0] 27)) = W at *
    refine HR.out.mono ?_
    rintro e w1 ⟨rfl, hb1⟩
    have HX1 := Lib.hid hb1; clear hb1
    go_wp2_with (first
      | (go_at_call 47; ((with_reducible refine (flip_any _ _ _ _ _ _ _).mono ?_); rintro e w2 ⟨rfl, hb2⟩; have HX2 := Lib.hid (Below.step (Below.step HX1.out (Below.alloc1 _ _)) hb2); clear hb2))
      | (go_at_call 48; ((with_reducible refine (HC.out _ HX2.out).mono ?_); rintro e w3 ⟨v1, v2, rfl, ho1, ho2, ap, hb3⟩; obtain ⟨x1, y1, z1, rfl⟩ := ho1.form'; obtain ⟨x2, y2, z2, rfl⟩ := ho2.form'; have HX3 := Lib.hid (Below.step HX2.out hb3); have HF := sea_stored (HP.out.below HX3.out) (Below.step HB.out HX3.out) (Nat.le_succ _) (Nat.lt_of_lt_of_le HP.out.lt HX2.out.size) ho1 ho2 ap (Nat.le_trans HB.out.size HX2.out.size); have q0 := (HP.out.below HX3.out).c0; have q1 := (HP.out.below HX3.out).c1; have q2 := (HP.out.below HX3.out).free 0; have q3 := (HP.out.below HX3.out).free 1; clear ho1 ho2 ap hb3)))
    exact bodyPost_ret (results_sea _ (by kernel_rfl) _ _ (w.heap.size + 1) _ _ true HF.out.1 rfl rfl) rfl ⟨_, _, rfl, HF.out.2.1, HF.out.2.2.1, HF.out.2.2.2.1, HF.out.2.2.2.2⟩
  | false =>
    rw [if_neg (by simp), if_neg (by simp)]
    have HR := Lib.hid (readWeed_no t b _ _ _ g1 g2 e)
    clear hA hP B1 e g1 g2 m1 m2
    generalize t.length = l1 at *
    generalize b.length = l2 at *
    go_enter Try.func24, Try.ntmps24
    go_wp2_with fail
    generalize ((w.alloc (.cells #[.slice a1 l1 n1, .slice a2 l2 n2] 27)).alloc (.cells #[.slice none 0 0, .slice none 0 0] 27)) = W at *
    refine HR.out.mono ?_
    rintro e w1 ⟨rfl, hb1⟩
    have HX1 := Lib.hid (Below.step hb1 (Below.alloc1 w1 (.cells #[.slice none 0 0, .slice none 0 0] 53))); clear hb1
    have q0 := (HP.out.below HX1.out).c0; have q1 := (HP.out.below HX1.out).c1; have q2 := (HP.out.below HX1.out).free 0; have q3 := (HP.out.below HX1.out).free 1
    have HF := sea_none (HP.out.below HX1.out) (Below.step HB.out HX1.out) (Nat.le_succ _)
    go_wp2
    exact bodyPost_ret (results_sea _ (by kernel_rfl) _ _ (w.heap.size + 1) _ _ false HF.out.1 rfl rfl) rfl ⟨_, _, rfl, Own.nil _ _, Own.nil _ _, ApartV.nil _, HF.out.2⟩
set_option maxHeartbeats 4000000 in
theorem spec_FlipSeaweed (t b : List Int) (w : World) (u1 u2 : Value) (h1 : Rd w u1 t) (h2 : Rd w u2 b) (m1 : t.length ≤ 1048576) (m2 : b.length ≤ 1048576) :
    Calls Try.prog 23 #[.agg #[u1, u2]] w (GivesW w (res1_FlipSeaweed t b) (res2_FlipSeaweed t b) (ok_FlipSeaweed t b)) := by
  unfold res1_FlipSeaweed res2_FlipSeaweed ok_FlipSeaweed
  have B1 := below2 w (.cells #[u1, u2] 27) (.cells #[.slice none 0 0, .slice none 0 0] 27)
  have hA := Box2.below (Box2.new 27 w u1 u2) (Below.alloc1 _ (.cells #[.slice none 0 0, .slice none 0 0] 27))
  have hP := Box2.at1 27 w (.cells #[u1, u2] 27) (.slice none 0 0) (.slice none 0 0)
  have k0 := hA.c0; have k1 := hA.c1
  have HP := Lib.hid hP; have HB := Lib.hid B1; have HA := Lib.hid hA
  have g1 := h1.below B1; have g2 := h2.below B1
  have hg := swGood_any t b _ u1 u2 g1 g2 m1 m2
  obtain ⟨a1, n1, rfl, _⟩ := h1
  obtain ⟨a2, n2, rfl, _⟩ := h2
  cases e : weedB t b with
  | true =>
    rw [e] at hg
    have hl := weed_lens e
    rw [if_pos rfl, if_pos rfl]
    have HR := Lib.hid hg
    have c1 := fun W hb => l1Own_any _ b W (g2.below hb) (by omega)
    have c2 := fun W hb => l1Own_any _ t W (g1.below hb) (by omega)
    have HC1 := Lib.hid c1; have HC2 := Lib.hid c2
    clear hA hP B1 e g1 g2 m1 m2 c1 c2 hl hg
    generalize t.length = l1 at *
    generalize b.length = l2 at *
    go_enter Try.func23, Try.ntmps23
    go_wp2_with fail
    generalize ((w.alloc (.cells #[.slice a1 l1 n1, .slice a2 l2 n2] 27)).alloc (.cells #[.slice none 0 0, .slice none 0 0] 27)) = W at *
    refine HR.out.mono ?_
    rintro e w0 ⟨rfl, hb0⟩
    have HX0 := Lib.hid hb0; clear hb0 k0 k1
    have HA0 := Lib.hid (HA.out.below HX0.out); have HP0 := Lib.hid (HP.out.below HX0.out); have HB0 := Lib.hid (Below.step HB.out HX0.out)
    have p0 := HA0.out.c0; have p1 := HA0.out.c1
    have q0 := HP0.out.c0; have q1 := HP0.out.c1; have q2 := HP0.out.free 0; have q3 := HP0.out.free 1
    go_wp2_with fail
    go_region_with (first
      | (go_at_call 46; ((with_reducible refine (HC1.out _ (HX0.out.drew)).mono ?_); rintro e w1 ⟨v1, rfl, ho1, hb1⟩; obtain ⟨x1, y1, z1, rfl⟩ := ho1.form'; have HO1 := Lib.hid ho1; have hb1' : Below w0.heap.size w0 w1 := ((Below.refl _ w0).drew).trans hb1; have HX := Lib.hid hb1'; have HZ := Lib.hid (Below.step HX0.out hb1'); have p2 := (HA0.out.below hb1').c0; have p3 := (HA0.out.below hb1').c1; clear ho1 hb1 hb1'))
      | (go_at_call 46; ((with_reducible refine (HC2.out _ HZ.out).mono ?_); rintro e w2 ⟨v2, rfl, ho2, hb2⟩; obtain ⟨x2, y2, z2, rfl⟩ := ho2.form'; have HO2 := Lib.hid ho2; have HY := Lib.hid hb2; have HR2 := Lib.hid ((HP0.out.below HX.out).below hb2); have s0 := HR2.out.c0; have s1 := HR2.out.c1; have s2 := HR2.out.free 0; have s3 := HR2.out.free 1; clear ho2 hb2)))
    all_goals
      have HF := put_two HP0.out HB0.out HO1.out HX.out HO2.out HY.out
      go_wp2
      exact bodyPost_ret (results_sea _ (by kernel_rfl) _ _ (w.heap.size + 1) _ _ true HF.out.1 rfl rfl) rfl ⟨_, _, rfl, HF.out.2.1, HF.out.2.2.1, HF.out.2.2.2.1, HF.out.2.2.2.2⟩
  | false =>
    rw [e] at hg
    rw [if_neg (by simp), if_neg (by simp)]
    have HR := Lib.hid hg
    clear hA hP B1 e g1 g2 m1 m2 hg
    generalize t.length = l1 at *
    generalize b.length = l2 at *
    go_enter Try.func23, Try.ntmps23
    go_wp2_with fail
    generalize ((w.alloc (.cells #[.slice a1 l1 n1, .slice a2 l2 n2] 27)).alloc (.cells #[.slice none 0 0, .slice none 0 0] 27)) = W at *
    refine HR.out.mono ?_
    rintro e w1 ⟨rfl, hb1⟩
    have HX1 := Lib.hid hb1; clear hb1
    have q0 := (HP.out.below HX1.out).c0; have q1 := (HP.out.below HX1.out).c1; have q2 := (HP.out.below HX1.out).free 0; have q3 := (HP.out.below HX1.out).free 1
    have HF := sea_none (HP.out.below HX1.out) (Below.step HB.out HX1.out) (Nat.le_succ _)
    go_wp2
    exact bodyPost_ret (results_sea _ (by kernel_rfl) _ _ (w.heap.size + 1) _ _ false HF.out.1 rfl rfl) rfl ⟨_, _, rfl, Own.nil _ _, Own.nil _ _, ApartV.nil _, HF.out.2⟩
end Go.Proofs.Ytllhdmpnjcemkaa
