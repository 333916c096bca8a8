/- MirrorSeaweed. -/
import Derived.Test.YtllhdmpnjcemkaaWeedFlip
import Derived.Test.YtllhdmpnjcemkaaRev
namespace Go.Proofs.Ytllhdmpnjcemkaa
open Go.RowKit
set_option linter.unusedSimpArgs false
set_option linter.unusedVariables false

def res1_MirrorSeaweed (t b : List Int) : List Int := if weedB t b then t.reverse else []
def res2_MirrorSeaweed (t b : List Int) : List Int := if weedB t b then b.reverse else []
def ok_MirrorSeaweed (t b : List Int) : Bool := weedB t b
theorem len_MirrorSeaweed (t b : List Int) : (res1_MirrorSeaweed t b).length ≤ 1000000 ∧ (res2_MirrorSeaweed t b).length ≤ 1000000 := by
  unfold res1_MirrorSeaweed res2_MirrorSeaweed
  split
  · next h => have := weed_lens h; simp; omega
  · simp
theorem back_snoc (l : List Int) (k : Nat) (h : k < l.length) : (l.drop k).reverse = (l.drop (k + 1)).reverse ++ [l.getD k 0] := by
  rw [List.drop_eq_getElem_cons h, List.reverse_cons]
  simp [List.getD, h]
set_option maxHeartbeats 1000000 in
theorem swBack_any (v : Value) (l : List Int) (w : World) (h : Rd w v l) (hl : l.length ≤ 1000000) : Calls Try.prog 49 #[v] w (Made w l.reverse) := by
  obtain ⟨a, c, rfl, hlc, hcm, _, hrd⟩ := h
  obtain ⟨n, hn⟩ : ∃ n, n = l.length := ⟨_, rfl⟩
  rw [← hn] at hrd hlc hl ⊢
  unfold maxLen at hcm
  have HN := Lib.hid hn; have HC := Lib.hid hrd
  clear hn hrd
  go_enter Try.func49, Try.ntmps49
  go_wp2
  go_loopw [3, 4] (fun o i wr => ∃ k : Nat, k ≤ n ∧ i = .int .i64 ((k : Int) - 1) ∧ Own w.heap.size wr o (l.drop k).reverse ∧ Below w.heap.size w wr) (fun _ i _ => (intOf i + 1).toNat)
  case atStart => exact ⟨n, by omega, rfl, by rw [HN.out, List.drop_length]; exact Own.nil _ _, Below.refl _ _⟩
  case round =>
    obtain ⟨k, hk, rfl, hown, hbel⟩ := hrel
    cases k with
    | zero =>
      go_wp2
      go_ret
      exact ⟨_, rfl, hown, hbel⟩
    | succ k =>
      rcases HC.out with h0 | ⟨b, off, rfl, hcell⟩
      · exfalso; have := HN.out; rw [h0] at this; simp at this; omega
      have hsrc : wr.cell? ⟨b, off + k, none⟩ = some (.int .i64 (l.getD k 0)) := by
        have := hcell k (by omega)
        exact (hbel.cell (p := ⟨b, off + k, none⟩) (World.block_lt_of_cell? w _ this)).trans this
      have HSN := Lib.hid (back_snoc l k (by rw [← HN.out]; omega))
      have HL : Hid (((l.drop (k + 1)).reverse).length ≤ 1000000) := by show _ ≤ 1000000; rw [List.length_reverse, List.length_drop, ← HN.out]; omega
      have hx : ((k + 1 : Nat) : Int) - 1 = (k : Int) := by omega
      rw [hx]
      have hsz := hbel.size
      clear hcell
      generalize l.getD k 0 = x at *
      go_wp2_with (at_builtin; refine wp_append _ rfl _ _ rfl w.heap.size _ _ ((l.drop (k + 1)).reverse) [x] rfl rfl (Own.below hown (Below.alloc1 _ _)) (Own.rd (Own.lit1 _ _ _ (Nat.le_refl _))) (by have := HL.out; simp only [List.length_cons, List.length_nil]; omega) (by simp; omega) ?_; intro v' w1 hown1 hgr hbel1; rw [← HSN.out] at hown1; have hbel2 := (hbel.alloc hsz _).trans hbel1; clear hown hgr hbel1 hbel)
      go_roundw
      case rel => exact ⟨k, by omega, by go_num, hown1, hbel2⟩
      case measure => simp [intOf]
set_option maxHeartbeats 1000000 in
theorem backwards_any (v : Value) (l : List Int) (w : World) (h : Rd w v l) (hl : l.length ≤ 1000000) : Calls Try.prog 50 #[v] w (Made w l.reverse) := by
  have HL := Lib.hid (partsList_any v l w h hl)
  obtain ⟨a, c, rfl, _⟩ := h
  go_enter Try.func50, Try.ntmps50
  go_wp2_with (first
    | (go_at_call 64; ((with_reducible refine HL.out.mono ?_); rintro e w1 ⟨v1, rfl, ho1, hb1⟩; have HO1 := Lib.hid ho1; have HB1 := Lib.hid hb1; clear ho1 hb1))
    | (go_at_call 65; ((with_reducible refine (reverse_any _ _ l _ HO1.out).mono ?_); rintro e w2 ⟨rfl, ho2, hb2⟩)))
  go_ret
  exact ⟨_, rfl, ho2, HB1.out.trans hb2⟩
set_option maxHeartbeats 4000000 in
theorem impl_MirrorSeaweed (t b : List Int) (w : World) (u1 u2 : Value) (h1 : Rd w u1 t) (h2 : Rd w u2 b) (m1 : t.length ≤ 1048576) (m2 : b.length ≤ 1048576) :
    Calls Try.prog 28 #[.agg #[u1, u2]] w (GivesW w (res1_MirrorSeaweed t b) (res2_MirrorSeaweed t b) (ok_MirrorSeaweed t b)) := by
  unfold res1_MirrorSeaweed res2_MirrorSeaweed ok_MirrorSeaweed
  have B1 := below2 w (.cells #[u1, u2] 27) (.cells #[.slice none 0 0, .slice none 0 0] 27)
  have hA := Box2.below (Box2.new 27 w u1 u2) (Below.alloc1 _ (.cells #[.slice none 0 0, .slice none 0 0] 27))
  have hP := Box2.at1 27 w (.cells #[u1, u2] 27) (.slice none 0 0) (.slice none 0 0)
  have k0 := hA.c0; have k1 := hA.c1
  have HP := Lib.hid hP; have HB := Lib.hid B1
  have g1 := h1.below B1; have g2 := h2.below B1
  obtain ⟨a1, n1, rfl, _⟩ := h1
  obtain ⟨a2, n2, rfl, _⟩ := h2
  cases e : weedB t b with
  | true =>
    have hl := weed_lens e
    rw [if_pos rfl, if_pos rfl]
    have HR := Lib.hid (readWeed_yes t b _ _ _ g1 g2 e)
    have c1 := fun W hb => backwards_any _ t W (g1.below hb) (by omega)
    have c2 := fun W hb => backwards_any _ b W (g2.below hb) (by omega)
    have HC1 := Lib.hid c1; have HC2 := Lib.hid c2
    clear hA hP B1 e g1 g2 m1 m2 c1 c2 hl
    generalize t.length = l1 at *
    generalize b.length = l2 at *
    go_enter Try.func28, Try.ntmps28
    go_wp2_with fail
    generalize ((w.alloc (.cells #[.slice a1 l1 n1, .slice a2 l2 n2] 27)).alloc (.cells #[.slice none 0 0, .slice none 0 0] 27)) = W at *
    refine HR.out.mono ?_
    rintro e w9 ⟨rfl, hb9⟩
    have HX0 := Lib.hid (Below.step hb9 (Below.alloc1 w9 (.cells #[.slice a1 l1 n1, .slice a2 l2 n2] 53))); clear hb9 k0 k1
    have HA0 := Lib.hid (Box2.new 53 w9 (.slice a1 l1 n1) (.slice a2 l2 n2))
    have HP0 := Lib.hid (HP.out.below HX0.out); have HB0 := Lib.hid (Below.step HB.out HX0.out)
    have p0 := HA0.out.c0; have p1 := HA0.out.c1
    have q0 := HP0.out.c0; have q1 := HP0.out.c1; have q2 := HP0.out.free 0; have q3 := HP0.out.free 1
    go_wp2_with fail
    generalize (w9.alloc (.cells #[.slice a1 l1 n1, .slice a2 l2 n2] 53)) = w0 at *
    go_region_with (first
      | (go_at_call 50; ((with_reducible refine (HC1.out _ (HX0.out.drew)).mono ?_); rintro e w1 ⟨v1, rfl, ho1, hb1⟩; obtain ⟨x1, y1, z1, rfl⟩ := ho1.form'; have HO1 := Lib.hid ho1; have hb1' : Below w0.heap.size w0 w1 := ((Below.refl _ w0).drew).trans hb1; have HX := Lib.hid hb1'; have HZ := Lib.hid (Below.step HX0.out hb1'); have p2 := (HA0.out.below hb1').c0; have p3 := (HA0.out.below hb1').c1; clear ho1 hb1 hb1'))
      | (go_at_call 50; ((with_reducible refine (HC2.out _ HZ.out).mono ?_); rintro e w2 ⟨v2, rfl, ho2, hb2⟩; obtain ⟨x2, y2, z2, rfl⟩ := ho2.form'; have HO2 := Lib.hid ho2; have HY := Lib.hid hb2; have HR2 := Lib.hid ((HP0.out.below HX.out).below hb2); have s0 := HR2.out.c0; have s1 := HR2.out.c1; have s2 := HR2.out.free 0; have s3 := HR2.out.free 1; clear ho2 hb2)))
    all_goals
      have HF := put_two HP0.out HB0.out HO1.out HX.out HO2.out HY.out
      go_wp2
      exact bodyPost_ret (results_sea _ (by kernel_rfl) _ _ (w.heap.size + 1) _ _ true HF.out.1 rfl rfl) rfl ⟨_, _, rfl, HF.out.2.1, HF.out.2.2.1, HF.out.2.2.2.1, HF.out.2.2.2.2⟩
  | false =>
    rw [if_neg (by simp), if_neg (by simp)]
    have HR := Lib.hid (readWeed_no t b _ _ _ g1 g2 e)
    clear hA hP B1 e g1 g2 m1 m2
    generalize t.length = l1 at *
    generalize b.length = l2 at *
    go_enter Try.func28, Try.ntmps28
    go_wp2_with fail
    generalize ((w.alloc (.cells #[.slice a1 l1 n1, .slice a2 l2 n2] 27)).alloc (.cells #[.slice none 0 0, .slice none 0 0] 27)) = W at *
    refine HR.out.mono ?_
    rintro e w1 ⟨rfl, hb1⟩
    have HX1 := Lib.hid (Below.step hb1 (Below.alloc1 w1 (.cells #[.slice none 0 0, .slice none 0 0] 53))); clear hb1
    have q0 := (HP.out.below HX1.out).c0; have q1 := (HP.out.below HX1.out).c1; have q2 := (HP.out.below HX1.out).free 0; have q3 := (HP.out.below HX1.out).free 1
    have HF := sea_none (HP.out.below HX1.out) (Below.step HB.out HX1.out) (Nat.le_succ _)
    go_wp2
    exact bodyPost_ret (results_sea _ (by kernel_rfl) _ _ (w.heap.size + 1) _ _ false HF.out.1 rfl rfl) rfl ⟨_, _, rfl, Own.nil _ _, Own.nil _ _, ApartV.nil _, HF.out.2⟩
set_option maxHeartbeats 4000000 in
theorem spec_MirrorSeaweed (t b : List Int) (w : World) (u1 u2 : Value) (h1 : Rd w u1 t) (h2 : Rd w u2 b) (m1 : t.length ≤ 1048576) (m2 : b.length ≤ 1048576) :
    Calls Try.prog 27 #[.agg #[u1, u2]] w (GivesW w (res1_MirrorSeaweed t b) (res2_MirrorSeaweed t b) (ok_MirrorSeaweed t b)) := by
  unfold res1_MirrorSeaweed res2_MirrorSeaweed ok_MirrorSeaweed
  have B1 := below2 w (.cells #[u1, u2] 27) (.cells #[.slice none 0 0, .slice none 0 0] 27)
  have hA := Box2.below (Box2.new 27 w u1 u2) (Below.alloc1 _ (.cells #[.slice none 0 0, .slice none 0 0] 27))
  have hP := Box2.at1 27 w (.cells #[u1, u2] 27) (.slice none 0 0) (.slice none 0 0)
  have k0 := hA.c0; have k1 := hA.c1
  have HP := Lib.hid hP; have HB := Lib.hid B1; have HA := Lib.hid hA
  have g1 := h1.below B1; have g2 := h2.below B1
  have hg := swGood_any t b _ u1 u2 g1 g2 m1 m2
  obtain ⟨a1, n1, rfl, _⟩ := h1
  obtain ⟨a2, n2, rfl, _⟩ := h2
  cases e : weedB t b with
  | true =>
    rw [e] at hg
    have hl := weed_lens e
    rw [if_pos rfl, if_pos rfl]
    have HR := Lib.hid hg
    have c1 := fun W hb => swBack_any _ t W (g1.below hb) (by omega)
    have c2 := fun W hb => swBack_any _ b W (g2.below hb) (by omega)
    have HC1 := Lib.hid c1; have HC2 := Lib.hid c2
    clear hA hP B1 e g1 g2 m1 m2 c1 c2 hl hg
    generalize t.length = l1 at *
    generalize b.length = l2 at *
    go_enter Try.func27, Try.ntmps27
    go_wp2_with fail
    generalize ((w.alloc (.cells #[.slice a1 l1 n1, .slice a2 l2 n2] 27)).alloc (.cells #[.slice none 0 0, .slice none 0 0] 27)) = W at *
    refine HR.out.mono ?_
    rintro e w0 ⟨rfl, hb0⟩
    have HX0 := Lib.hid hb0; clear hb0 k0 k1
    have HA0 := Lib.hid (HA.out.below HX0.out); have HP0 := Lib.hid (HP.out.below HX0.out); have HB0 := Lib.hid (Below.step HB.out HX0.out)
    have p0 := HA0.out.c0; have p1 := HA0.out.c1
    have q0 := HP0.out.c0; have q1 := HP0.out.c1; have q2 := HP0.out.free 0; have q3 := HP0.out.free 1
    go_wp2_with fail
    go_region_with (first
      | (go_at_call 49; ((with_reducible refine (HC1.out _ (HX0.out.drew)).mono ?_); rintro e w1 ⟨v1, rfl, ho1, hb1⟩; obtain ⟨x1, y1, z1, rfl⟩ := ho1.form'; have HO1 := Lib.hid ho1; have hb1' : Below w0.heap.size w0 w1 := ((Below.refl _ w0).drew).trans hb1; have HX := Lib.hid hb1'; have HZ := Lib.hid (Below.step HX0.out hb1'); have p2 := (HA0.out.below hb1').c0; have p3 := (HA0.out.below hb1').c1; clear ho1 hb1 hb1'))
      | (go_at_call 49; ((with_reducible refine (HC2.out _ HZ.out).mono ?_); rintro e w2 ⟨v2, rfl, ho2, hb2⟩; obtain ⟨x2, y2, z2, rfl⟩ := ho2.form'; have HO2 := Lib.hid ho2; have HY := Lib.hid hb2; have HR2 := Lib.hid ((HP0.out.below HX.out).below hb2); have s0 := HR2.out.c0; have s1 := HR2.out.c1; have s2 := HR2.out.free 0; have s3 := HR2.out.free 1; clear ho2 hb2)))
    all_goals
      have HF := put_two HP0.out HB0.out HO1.out HX.out HO2.out HY.out
      go_wp2
      exact bodyPost_ret (results_sea _ (by kernel_rfl) _ _ (w.heap.size + 1) _ _ true HF.out.1 rfl rfl) rfl ⟨_, _, rfl, HF.out.2.1, HF.out.2.2.1, HF.out.2.2.2.1, HF.out.2.2.2.2⟩
  | false =>
    rw [e] at hg
    rw [if_neg (by simp), if_neg (by simp)]
    have HR := Lib.hid hg
    clear hA hP B1 e g1 g2 m1 m2 hg
    generalize t.length = l1 at *
    generalize b.length = l2 at *
    go_enter Try.func27, Try.ntmps27
    go_wp2_with fail
    generalize ((w.alloc (.cells #[.slice a1 l1 n1, .slice a2 l2 n2] 27)).alloc (.cells #[.slice none 0 0, .slice none 0 0] 27)) = W at *
    refine HR.out.mono ?_
    rintro e w1 ⟨rfl, hb1⟩
    have HX1 := Lib.hid hb1; clear hb1
    have q0 := (HP.out.below HX1.out).c0; have q1 := (HP.out.below HX1.out).c1; have q2 := (HP.out.below HX1.out).free 0; have q3 := (HP.out.below HX1.out).free 1
    have HF := sea_none (HP.out.below HX1.out) (Below.step HB.out HX1.out) (Nat.le_succ _)
    go_wp2
    exact bodyPost_ret (results_sea _ (by kernel_rfl) _ _ (w.heap.size + 1) _ _ false HF.out.1 rfl rfl) rfl ⟨_, _, rfl, Own.nil _ _, Own.nil _ _, ApartV.nil _, HF.out.2⟩
end Go.Proofs.Ytllhdmpnjcemkaa
