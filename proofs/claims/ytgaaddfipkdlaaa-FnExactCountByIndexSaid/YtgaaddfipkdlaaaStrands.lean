/- All strands of a seaweed. -/
import Derived.Test.YtgaaddfipkdlaaaStrandF
import Derived.Test.YtgaaddfipkdlaaaWeedArcsR
import Derived.Test.YtgaaddfipkdlaaaWeedSw
import Derived.Deep.RegionHeld3
namespace Go.Proofs.Ytgaaddfipkdlaaa
open Go.RowKit
set_option linter.unusedSimpArgs false
set_option linter.unusedVariables false

theorem s2_setG {w w1 : World} {u1 u2 : Value} (h : Hid (Below w.heap.size w w1) ∧ w1.cell? ⟨w.heap.size, 0, none⟩ = some u1 ∧ w1.cell? ⟨w.heap.size, 1, none⟩ = some u2) (g : Nat) (hg : w.heap.size < g) (x y : Value) :
    Hid (Below w.heap.size w ((w1.setCell ⟨g, 0, none⟩ x).setCell ⟨g, 1, none⟩ y)) ∧ ((w1.setCell ⟨g, 0, none⟩ x).setCell ⟨g, 1, none⟩ y).cell? ⟨w.heap.size, 0, none⟩ = some u1 ∧ ((w1.setCell ⟨g, 0, none⟩ x).setCell ⟨g, 1, none⟩ y).cell? ⟨w.heap.size, 1, none⟩ = some u2 := by
  have hb : Below (w.heap.size + 1) w1 ((w1.setCell ⟨g, 0, none⟩ x).setCell ⟨g, 1, none⟩ y) := ((Below.refl _ w1).setCell (p := ⟨g, 0, none⟩) (by show _ ≤ g; omega) x).setCell (p := ⟨g, 1, none⟩) (by show _ ≤ g; omega) y
  have hB := (h.1.out.setCell (p := ⟨g, 0, none⟩) (by show _ ≤ g; omega) x).setCell (p := ⟨g, 1, none⟩) (by show _ ≤ g; omega) y
  have k : ∀ (a : Addr) v, a.block < w.heap.size + 1 → w1.cell? a = some v → ((w1.setCell ⟨g, 0, none⟩ x).setCell ⟨g, 1, none⟩ y).cell? a = some v := fun a v ha hv => (hb.cell ha).trans hv
  exact ⟨hB, k _ _ (by show w.heap.size < _; omega) h.2.1, k _ _ (by show w.heap.size < _; omega) h.2.2⟩
noncomputable def sdL (n : Nat) (T B : Nat → Nat) (k : Nat) : List (List Int × Bool) := (curvesFrom n T B k).map (fun c => (natL c.1, c.2))
theorem sdL_len (n : Nat) (T B : Nat → Nat) (k : Nat) : (sdL n T B k).length ≤ k := by unfold sdL; rw [List.length_map]; exact curvesFrom_length n T B k
theorem sdL_take {n : Nat} {T B : Nat → Nat} {k : Nat} (h : firstB (comp n T B k) k = true) : sdL n T B (k + 1) = sdL n T B k ++ [(natL (comp n T B k), endB T B (comp n T B k))] := by
  unfold sdL; simp only [curvesFrom, h, if_true, List.map_append]; rfl
theorem sdL_pass {n : Nat} {T B : Nat → Nat} {k : Nat} (h : firstB (comp n T B k) k = false) : sdL n T B (k + 1) = sdL n T B k := by
  unfold sdL; simp [curvesFrom, h]
theorem box_notA {B b : Nat} {w : World} {v v1 v2 : Value} {l : List Int} (h : Own B w v l) (hb : Box2 83 w b v1 v2) : v.ownBlock ≠ some b := by
  rcases h.2 with ⟨rfl, _⟩ | ⟨g, cap, cur, rfl, _, hg, _⟩
  · simp [Value.ownBlock]
  · intro e
    have e' : g = b := by simpa [Value.ownBlock] using e
    subst e'
    unfold Box2 at hb
    rw [hb] at hg
    simp at hg
theorem own_setA {B g : Nat} {w : World} {v v1 v2 : Value} {l : List Int} (h : Own B w v l) (hb : Box2 83 w g v1 v2) (x y : Value) : Own B ((w.setCell ⟨g, 0, none⟩ x).setCell ⟨g, 1, none⟩ y) v l := by
  have hne : ∀ k, v.ownBlock = some k → some g ≠ some k := fun k hk e => box_notA h hb (hk.trans e.symm)
  have h1 : Own B (w.setCell ⟨g, 0, none⟩ x) v l := h.grown ⟨rfl, rfl, rfl, by simp, fun k _ hk => heap_setCell_other w ⟨g, 0, none⟩ k _ (fun e => hk (by simp [e]))⟩ hne
  exact h1.grown ⟨rfl, rfl, rfl, by simp, fun k _ hk => heap_setCell_other _ ⟨g, 1, none⟩ k _ (fun e => hk (by simp [e]))⟩ hne
/-- the two arcs held in an array of the call's own -/
structure Arcs2 (w W5 : World) (B g : Nat) (u1 u2 : Value) (A1 A2 : List Int) : Prop where
  box : Box2 83 W5 g u1 u2
  own1 : Own B W5 u1 A1
  own2 : Own B W5 u2 A2
  below : Below w.heap.size w W5
theorem Arcs2.setA {w w2 : World} {B g : Nat} {u1 u2 v1 v2 : Value} {A1 A2 : List Int} (hb : Box2 83 w2 g v1 v2) (h1 : Own B w2 u1 A1) (h2 : Own B w2 u2 A2) (hB : Below w.heap.size w w2) (hg : w.heap.size ≤ g) :
    Arcs2 w ((w2.setCell ⟨g, 0, none⟩ u1).setCell ⟨g, 1, none⟩ u2) B g u1 u2 A1 A2 :=
  ⟨(hb.set0 u1).set1 u2, own_setA h1 hb u1 u2, own_setA h2 hb u1 u2, (hB.setCell (p := ⟨g, 0, none⟩) hg u1).setCell (p := ⟨g, 1, none⟩) hg u2⟩
theorem Arcs2.newA {w w2 : World} {B : Nat} {u1 u2 : Value} {A1 A2 : List Int} (h1 : Own B w2 u1 A1) (h2 : Own B w2 u2 A2) (hB : Below w.heap.size w w2) :
    Arcs2 w (w2.alloc (.cells #[u1, u2] 83)) B w2.heap.size u1 u2 A1 A2 :=
  ⟨Box2.new _ _ _ _, h1.below (Below.alloc1 _ _), h2.below (Below.alloc1 _ _), hB.alloc hB.size _⟩
theorem own_cons {B : Nat} {w : World} {v : Value} {x : Nat} {l : List Nat} (h : Own B w v (natL (x :: l))) : ∃ g c, v = .slice (some ⟨g, 0, none⟩) (l.length + 1) c ∧ l.length + 1 ≤ c ∧ c ≤ maxLen ∧ ∀ W, Below w.heap.size w W → W.cell? ⟨g, 0, none⟩ = some (.int .i64 (x : Nat)) := by
  rcases h.shape with ⟨_, h0⟩ | ⟨g, c, hv, _, _, h1, h2⟩
  · simp [natL] at h0
  · subst hv
    have hc := h.cellAt 0 (by simp [natL])
    refine ⟨g, c, by simp [natL], by simpa [natL] using h1, h2, fun W hW => (hW.cell (World.block_lt_of_cell? w _ hc)).trans ?_⟩
    rw [hc]; simp [natL]
set_option maxRecDepth 100000 in
set_option maxHeartbeats 1000000 in
theorem strands_any (t b : List Int) (w : World) (a1 a2 : Option Addr) (n1 c1 n2 c2 : Nat) (h1 : Rd w (.slice a1 n1 c1) t) (h2 : Rd w (.slice a2 n2 c2) b) (hw : weedB t b = true) :
    Calls Try.prog 54 #[.agg #[.slice a1 n1 c1, .slice a2 n2 c2]] w (MadeSd w (sdL t.sum.toNat (arcN t) (arcN b) t.sum.toNat)) := by
  have e1 := (weed_facts hw).1; have e2 := (weed_facts hw).2.1; have e3 := (weed_facts hw).2.2
  have HT := Lib.hid (fun W (hb : Below w.heap.size w W) => partsArcs_any _ t W (h1.below hb) e1)
  have HBo := Lib.hid (fun W (hb : Below w.heap.size w W) => partsArcs_any _ b W (h2.below hb) e2)
  have HSM := Lib.hid (fun W (hb : Below w.heap.size w W) => sum_any _ t W (h1.below hb) (weed_len e1) (parts_rng e1))
  have hlt : (arcsL t).length = t.sum.toNat := arcs_len e1
  have hlb : (arcsL b).length = t.sum.toNat := by rw [e3]; exact arcs_len e2
  have hn20 : t.sum.toNat ≤ 20 := by have := (parts_facts e1).2.1; omega
  have hs0 : t.sum = (t.sum.toNat : Int) := by have := (parts_facts e1).2; omega
  rw [hs0] at HSM
  have HI1 := Lib.hid (arcs_inv e1)
  have HI2 : Hid (Inv t.sum.toNat (arcN b)) := by rw [e3]; exact arcs_inv e2
  have HV1 := Lib.hid (fun j (hj : j < t.sum.toNat) => (arcs_at e1 hj).1)
  have HV2 := Lib.hid (fun j (hj : j < t.sum.toNat) => (arcs_at e2 (j := j) (by rw [← e3]; exact hj)).1)
  have hA := Box2.new 58 w (.slice a1 n1 c1) (.slice a2 n2 c2)
  have k0 := hA.c0; have k1 := hA.c1
  have HB := Lib.hid (Below.alloc1 w (.cells #[.slice a1 n1 c1, .slice a2 n2 c2] 58)); have HA := Lib.hid hA
  clear hA h1 h2 hw e1 e2 e3 hs0
  generalize arcsL t = AT at *
  generalize arcsL b = AB at *
  generalize arcN t = T at *
  generalize arcN b = B at *
  generalize t.sum.toNat = n at *
  have HLT := Lib.hid hlt; have HLB := Lib.hid hlb
  go_enter Try.func54, Try.ntmps54
  go_wp2_with fail
  have HZ : Hid (w.heap.size < (w.alloc (.cells #[.slice a1 n1 c1, .slice a2 n2 c2] 58)).heap.size) := Lib.hid (by simp)
  generalize (w.alloc (.cells #[.slice a1 n1 c1, .slice a2 n2 c2] 58)) = W at *
  have hS0 : Hid (Below w.heap.size w W) ∧ W.cell? ⟨w.heap.size, 0, none⟩ = some (.slice a1 n1 c1) ∧ W.cell? ⟨w.heap.size, 1, none⟩ = some (.slice a2 n2 c2) := ⟨HB.out, HA.out.c0, HA.out.c1⟩
  have hS : Hid (Below w.heap.size w W.drew) ∧ W.drew.cell? ⟨w.heap.size, 0, none⟩ = some (.slice a1 n1 c1) ∧ W.drew.cell? ⟨w.heap.size, 1, none⟩ = some (.slice a2 n2 c2) := ⟨HB.out.drew, HA.out.c0, HA.out.c1⟩
  have hz0 : w.heap.size < W.heap.size := HZ.out
  go_region_held3 (fun w' => Hid (Below w.heap.size w w') ∧ w'.cell? ⟨w.heap.size, 0, none⟩ = some (.slice a1 n1 c1) ∧ w'.cell? ⟨w.heap.size, 1, none⟩ = some (.slice a2 n2 c2))
    (first | assumption | exact s2_keep (by assumption) (by assumption) | exact s2_alloc (by assumption) _ | exact s2_allocD (by assumption) _ | exact s2_setG (by assumption) _ (by assumption) _ _)
    (first
      | (go_at_call 60; ((with_reducible refine (HT.out _ (s2_out (by assumption))).mono ?_); rintro e w1 ⟨v1, rfl, ho1, hb1⟩; have hq1 : Below W.heap.size W w1 := (by first | exact (Below.refl _ W).drew.trans hb1 | exact ((Below.refl _ W).drew.alloc (Nat.le_refl _) _).trans (hb1.mono (by simp)) | exact ((Below.alloc1 W _).drew).trans (hb1.mono (by simp))); have hS1 := s2_keep hS0 hq1; obtain ⟨b1, d1, rfl, hb1c, hb1m⟩ := ho1.form; have HO1 := Lib.hid (Own.mono ho1 (show W.heap.size ≤ _ by simp)); have hz1 : w.heap.size < w1.heap.size := Nat.lt_of_lt_of_le HZ.out hq1.size; (try have hx1 := Lib.hid (show Box2 83 w1 W.heap.size (.slice none 0 0) (.slice none 0 0) from (Box2.new_drew 83 W (.slice none 0 0) (.slice none 0 0)).below hb1)); clear ho1))
      | (go_at_call 60; ((with_reducible refine (HBo.out _ (s2_out (by assumption))).mono ?_); rintro e w2 ⟨v2, rfl, ho2, hb2⟩; have hq2 : Below w1.heap.size w1 w2 := (by first | exact hb2 | exact (Below.alloc1 w1 _).trans (hb2.mono (by simp)) | exact ((Below.alloc1 w1 _).drew).trans (hb2.mono (by simp))); have hS2 := s2_keep hS1 hq2; obtain ⟨b2, d2, rfl, hb2c, hb2m⟩ := ho2.form; have HO2 := Lib.hid (Own.mono ho2 (Nat.le_trans (show W.heap.size ≤ w1.heap.size from hq1.size) (by simp))); have HO12 := Lib.hid (HO1.out.below hq2); have hz2 : w.heap.size < w2.heap.size := Nat.lt_of_lt_of_le hz1 hq2.size; (try (have hx := hx1.out.below hq2; have HX5 := Lib.hid hx; have f0 := hx.c0; have f1 := hx.c1; have f2 := hx.free 0; have f3 := hx.free 1; clear hx)); (try (have hx := (Box2.new 83 w1 (.slice none 0 0) (.slice none 0 0)).below hb2; have HX5 := Lib.hid hx; have f0 := hx.c0; have f1 := hx.c1; have f2 := hx.free 0; have f3 := hx.free 1; clear hx)); clear ho2)))
  all_goals
    have hw0 : w.heap.size ≤ W.heap.size := Nat.le_of_lt hz0
    first
      | have H5 := Lib.hid (Arcs2.setA (g := W.heap.size) HX5.out (HO12.out.mono hw0) (HO2.out.mono hw0) hS2.1.out hw0)
        rw [hlt, hlb] at H5
        have hC := s2_setG hS2 W.heap.size hz0 (.slice b1 n d1) (.slice b2 n d2)
        generalize W.heap.size = g5 at H5 hC ⊢
        generalize ((w2.setCell ⟨g5, 0, none⟩ (.slice b1 n d1)).setCell ⟨g5, 1, none⟩ (.slice b2 n d2)) = W5 at H5 hC ⊢
      | have H5 := Lib.hid (Arcs2.setA (g := w1.heap.size) HX5.out (HO12.out.mono hw0) (HO2.out.mono hw0) hS2.1.out (Nat.le_of_lt hz1))
        rw [hlt, hlb] at H5
        have hC := s2_setG hS2 w1.heap.size hz1 (.slice b1 n d1) (.slice b2 n d2)
        generalize w1.heap.size = g5 at H5 hC ⊢
        generalize ((w2.setCell ⟨g5, 0, none⟩ (.slice b1 n d1)).setCell ⟨g5, 1, none⟩ (.slice b2 n d2)) = W5 at H5 hC ⊢
      | have H5 := Lib.hid (Arcs2.newA (HO12.out.mono hw0) (HO2.out.mono hw0) hS2.1.out)
        rw [hlt, hlb] at H5
        have hC := s2_alloc hS2 (.cells #[.slice b1 n d1, .slice b2 n d2] 83)
        generalize w2.heap.size = g5 at H5 ⊢
        generalize (w2.alloc (.cells #[.slice b1 n d1, .slice b2 n d2] 83)) = W5 at H5 hC ⊢
    have HT1 : Hid (0 < n → ∃ g, b1 = some ⟨g, 0, none⟩ ∧ ∀ j, j < n → ∀ W6, Below W5.heap.size W5 W6 → W6.cell? ⟨g, j, none⟩ = some (.int .i64 (T j : Nat))) := by
      intro h0
      rcases H5.out.own1.shape with ⟨_, h0⟩ | ⟨g, c, hv, _⟩
      · rw [h0] at hlt; simp at hlt; omega
      · simp only [Value.slice.injEq] at hv
        obtain ⟨rfl, _, rfl⟩ := hv
        refine ⟨g, rfl, fun j hj W6 h6 => ?_⟩
        have hc := H5.out.own1.cellAt j (by omega)
        rw [HV1.out j hj] at hc
        exact (h6.cell (World.block_lt_of_cell? W5 _ hc)).trans hc
    have HT2 : Hid (0 < n → ∃ g, b2 = some ⟨g, 0, none⟩ ∧ ∀ j, j < n → ∀ W6, Below W5.heap.size W5 W6 → W6.cell? ⟨g, j, none⟩ = some (.int .i64 (B j : Nat))) := by
      intro h0
      rcases H5.out.own2.shape with ⟨_, h0⟩ | ⟨g, c, hv, _⟩
      · rw [h0] at hlb; simp at hlb; omega
      · simp only [Value.slice.injEq] at hv
        obtain ⟨rfl, _, rfl⟩ := hv
        refine ⟨g, rfl, fun j hj W6 h6 => ?_⟩
        have hc := H5.out.own2.cellAt j (by omega)
        rw [HV2.out j hj] at hc
        exact (h6.cell (World.block_lt_of_cell? W5 _ hc)).trans hc
    have HD1 : Hid (n ≤ d1 ∧ d1 ≤ maxLen) := Lib.hid (by rw [← hlt]; exact ⟨hb1c, hb1m⟩)
    have HD2 : Hid (n ≤ d2 ∧ d2 ≤ maxLen) := Lib.hid (by rw [← hlb]; exact ⟨hb2c, hb2m⟩)
    have k5 := hC.2.1; have k6 := hC.2.2
    have HSM2 := Lib.hid (HSM.out W5 H5.out.below)
    have HW5 := Lib.hid H5.out.below
    have HBX := Lib.hid H5.out.box
    rw [hlt] at hb1c; rw [hlb] at hb2c
    clear hz0 hz1 hz2 hS hS0 hS1 hS2 hw0 HLT HLB HV1 HV2 HO1 HO2 HO12 hq1 hq2 hb1 hb2 hlt hlb H5 HSM HT HBo HA HB HZ k0 k1
    go_wp2_with (go_at_call 56; ((with_reducible refine HSM2.out.mono ?_); rintro e w6 ⟨rfl, rfl⟩))
    clear k5 k6 hC
    go_loopw [4, 17] (fun o i wr => ∃ (k : Nat) (xs : List (Value × List Int × Bool)), k ≤ n ∧ i = .int .i64 k ∧ Hid (OwnSd W5.heap.size W5.heap.size wr o xs) ∧ Hid (xs.map (·.2) = sdL n T B k) ∧ Hid (Below W5.heap.size W5 wr)) (fun _ i _ => n - (intOf i).toNat)
    case atStart => exact ⟨0, [], by omega, rfl, OwnSd.nil _ _ _, rfl, Below.refl _ _⟩
    case round =>
      obtain ⟨k, xs, hk, rfl, HO, HX, HBE⟩ := hrel
      generalize wr = wc at *
      by_cases hkn : k < n
      · obtain ⟨g1, rfl, ht1⟩ := HT1.out (by omega)
        obtain ⟨g2, rfl, ht2⟩ := HT2.out (by omega)
        have HSO := Lib.hid (strandOf_any k n T B wc g1 g2 d1 d2 hkn hn20 HD1.out HD2.out HI1.out HI2.out (fun j hj => ht1 j hj wc HBE.out) (fun j hj => ht2 j hj wc HBE.out))
        have hbx := HBX.out.below HBE.out
        have q0 := hbx.c0; have q1 := hbx.c1
        obtain ⟨x, l, hcl, hfx⟩ := comp_head (T := T) (B := B) hkn
        have HCL := Lib.hid hcl
        have HXL : Hid (xs.length ≤ 20) := Lib.hid (by have h1 := congrArg List.length HX.out; rw [List.length_map] at h1; have h2 := sdL_len n T B k; omega)
        clear ht1 ht2 hbx hcl
        generalize hpe : endB T B (comp n T B k) = pe at *
        cases hF : firstB (comp n T B k) k with
        | true =>
          rw [hF] at hfx
          have hxk : (x : Int) = k := by simpa using hfx.symm
          have HS1 := Lib.hid (sdL_take hF)
          rw [hpe] at HS1
          clear hF hfx
          go_wp2_with (first
            | (go_at_call 61; ((with_reducible refine HSO.out.mono ?_); rintro e w6 ⟨v6, rfl, ho6, hb6⟩; rw [HCL.out] at ho6; obtain ⟨g6, c6, rfl, hc6a, hc6b, hcell⟩ := own_cons ho6; unfold maxLen at hc6b; have hc6 := hcell _ (Below.alloc1 w6 (.cells #[.slice (some ⟨g6, 0, none⟩) (l.length + 1) c6, .bool pe] 55)); rw [← HCL.out] at ho6; have hs6 := Box2.new 55 w6 (.slice (some ⟨g6, 0, none⟩) (l.length + 1) c6) (.bool pe); have s0 := hs6.c0; have s1 := hs6.c1; have hz6 := Box2.new 55 (w6.alloc (.cells #[.slice (some ⟨g6, 0, none⟩) (l.length + 1) c6, .bool pe] 55)) (.slice (some ⟨g6, 0, none⟩) (l.length + 1) c6) (.bool pe); rw [World.size_alloc] at hz6; have z0 := hz6.c0; have z1 := hz6.c1; clear hz6; have HO6 := Lib.hid ho6; have HB6 := Lib.hid (Below.step HBE.out hb6); have HC6 := Lib.hid hb6; clear ho6 hb6 hcell hs6))
            | (at_builtin; refine wp_appendSd _ rfl (.tmp 29) (.tmp 31) rfl W5.heap.size W5.heap.size (w6.heap.size + 1) _ (.slice (some ⟨g6, 0, none⟩) (l.length + 1) c6) (natL (comp n T B k)) pe xs rfl rfl z0 z1 (((HO.out.below HC6.out).below (Below.alloc1 _ _)).below (Below.alloc1 _ _)) (((HO6.out.mono HBE.out.size).below (Below.alloc1 _ _)).below (Below.alloc1 _ _)) (by have := HXL.out; omega) (by have := HB6.out.size; simp; omega) ?_; intro v7 w7 ho7 hb7; have HO7 := Lib.hid ho7; have HB7 := Lib.hid (((HB6.out.alloc HB6.out.size _).alloc (by have := HB6.out.size; simp; omega) _).trans hb7); clear ho7 hb7))
          go_roundw
          case rel => exact ⟨k + 1, xs ++ [(_, _, pe)], by omega, by go_num, HO7.out, by rw [HS1.out, List.map_append, HX.out]; rfl, HB7.out⟩
          case measure => simp [intOf]; omega
        | false =>
          rw [hF] at hfx
          have hxk : ¬ (x : Int) = k := by simpa using hfx.symm
          have HS1 := Lib.hid (sdL_pass hF)
          clear hF hfx
          go_wp2_with (go_at_call 61; ((with_reducible refine HSO.out.mono ?_); rintro e w6 ⟨v6, rfl, ho6, hb6⟩; rw [HCL.out] at ho6; obtain ⟨g6, c6, rfl, hc6a, hc6b, hcell⟩ := own_cons ho6; unfold maxLen at hc6b; have hc6 := hcell _ (Below.alloc1 w6 (.cells #[.slice (some ⟨g6, 0, none⟩) (l.length + 1) c6, .bool pe] 55)); rw [← HCL.out] at ho6; have hs6 := Box2.new 55 w6 (.slice (some ⟨g6, 0, none⟩) (l.length + 1) c6) (.bool pe); have s0 := hs6.c0; have s1 := hs6.c1; have hz6 := Box2.new 55 (w6.alloc (.cells #[.slice (some ⟨g6, 0, none⟩) (l.length + 1) c6, .bool pe] 55)) (.slice (some ⟨g6, 0, none⟩) (l.length + 1) c6) (.bool pe); rw [World.size_alloc] at hz6; have z0 := hz6.c0; have z1 := hz6.c1; clear hz6; have HO6 := Lib.hid ho6; have HB6 := Lib.hid (Below.step HBE.out hb6); have HC6 := Lib.hid hb6; clear ho6 hb6 hcell hs6))
          go_roundw
          case rel => exact ⟨k + 1, xs, by omega, by go_num, (HO.out.below HC6.out).below (Below.alloc1 _ _), by rw [HS1.out]; exact HX, HB6.out.alloc HB6.out.size _⟩
          case measure => simp [intOf]; omega
      · obtain rfl : k = n := by omega
        obtain ⟨a5, c5, rfl, _⟩ := HO.out.form
        go_wp2
        go_ret
        have hws := HW5.out.size
        exact ⟨_, xs, rfl, ⟨(HO.out.mono hws).1, fun x hx => (HO.out.2 x hx).mono hws⟩, HX.out, Below.step HW5.out HBE.out⟩
end Go.Proofs.Ytgaaddfipkdlaaa
