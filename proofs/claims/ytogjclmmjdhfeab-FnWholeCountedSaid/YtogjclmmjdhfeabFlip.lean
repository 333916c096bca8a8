/- FlipMeander: the program's function and the model's. -/
import Derived.Test.YtogjclmmjdhfeabPairM
namespace Go.Proofs.Ytogjclmmjdhfeab
open Go.RowKit
set_option linter.unusedSimpArgs false
set_option linter.unusedVariables false

def ok_FlipMeander (t b : List Int) : Bool := pairOk t b
def res1_FlipMeander (t b : List Int) : List Int := if pairOk t b then b else []
def res2_FlipMeander (t b : List Int) : List Int := if pairOk t b then t else []
theorem len_FlipMeander (t b : List Int) : (res1_FlipMeander t b).length ≤ 1000000 ∧ (res2_FlipMeander t b).length ≤ 1000000 := by
  unfold res1_FlipMeander res2_FlipMeander
  cases h : pairOk t b with
  | false => simp
  | true =>
    obtain ⟨g1, g2, _⟩ := pairOk_facts h
    have := good_len' g1; have := good_len' g2
    simp; omega

theorem results_flip (tmps : Array Value) (w : World) (g : Nat) (v1 v2 : Value) (ok : Bool) (hg : Box2 26 w g v1 v2) (h2 : tmps.getD 2 undef = .pointer (some ⟨g, 0, none⟩)) (h3 : tmps.getD 3 undef = .bool ok) :
    (results Try.f74 tmps).run Try.prog w = .ok (.tuple #[.agg #[v1, v2], .bool ok]) w := by
  have h2' : tmps[2]?.getD undef = .pointer (some ⟨g, 0, none⟩) := by simpa using h2
  have h3' : tmps[3]?.getD undef = .bool ok := by simpa using h3
  have hr : Try.f74.results = #[.cell 2 26, .tmp 3] := by kernel_rfl
  simp [results, hr, h2', h3', asAddr, run_loadMea w g v1 v2 hg]

set_option maxHeartbeats 4000000 in
theorem impl_FlipMeander (t b : List Int) (w : World) (u1 u2 : Value) (h1 : Rd w u1 t) (h2 : Rd w u2 b) (m1 : t.length ≤ 1048576) (m2 : b.length ≤ 1048576) :
    Calls Try.prog 74 #[.agg #[u1, u2]] w (GivesM w (res1_FlipMeander t b) (res2_FlipMeander t b) (ok_FlipMeander t b)) := by
  unfold res1_FlipMeander res2_FlipMeander ok_FlipMeander
  have hA := Box2.below (Box2.new 26 w u1 u2) (Below.alloc1 _ (.cells #[.slice none 0 0, .slice none 0 0] 26))
  have hR := Box2.new 26 (w.alloc (.cells #[u1, u2] 26)) (.slice none 0 0) (.slice none 0 0)
  rw [World.size_alloc] at hR
  have B2 := Below.step (Below.alloc1 w (.cells #[u1, u2] 26)) (Below.alloc1 _ (.cells #[.slice none 0 0, .slice none 0 0] 26))
  have k0 := hA.c0; have k1 := hA.c1
  have HA := Lib.hid hA; have HR := Lib.hid hR; have HB := Lib.hid B2
  have hrd := readPair_any t b _ u1 u2 (h1.below B2) (h2.below B2)
  clear hA hR B2 h1 h2 m1 m2
  cases e1 : pairOk t b with
  | false =>
    rw [e1] at hrd
    have HRD := Lib.hid hrd; clear hrd e1
    go_enter Try.func74, Try.ntmps74
    go_wp2_with fail
    refine HRD.out.mono ?_
    rintro e w1 ⟨rfl, hb1⟩
    have HR1 := Lib.hid (HR.out.below hb1); have HB1 := Lib.hid (Below.step HB.out hb1)
    clear hb1
    go_wp2_with ((with_reducible refine wp_storePairNew rfl (.tmp 4) (.tmp 9) rfl [] [] rfl rfl ?_); intro w2 hs2 hb2; have HR2 := Lib.hid (HR1.out.below hb2); have HB2 := Lib.hid (Below.step HB1.out hb2); have g0 := HR2.out.c0; have g1 := HR2.out.c1; have g2 := HR2.out.free 0; have g3 := HR2.out.free 1; clear hs2 hb2)
    exact bodyPost_ret (results_flip _ _ (w.heap.size + 1) _ _ false ((HR2.out.set0 _).set1 _) rfl rfl) rfl ⟨_, _, rfl, Own.nil _ _, Own.nil _ _, ApartV.nil _, (HB2.out.setCell (p := ⟨w.heap.size + 1, 0, none⟩) (Nat.le_succ _) _).setCell (p := ⟨w.heap.size + 1, 1, none⟩) (Nat.le_succ _) _⟩
  | true =>
    rw [e1] at hrd
    obtain ⟨g1, g2, _⟩ := pairOk_facts e1
    simp only [if_true] at hrd ⊢
    have HRD := Lib.hid hrd; have L1 := Lib.hid (good_len' g1); have L2 := Lib.hid (good_len' g2)
    clear hrd e1 g1 g2
    go_enter Try.func74, Try.ntmps74
    go_wp2_with fail
    refine HRD.out.mono ?_
    rintro e w1 ⟨rfl, hb1⟩
    have HR1 := Lib.hid (HR.out.below hb1); have HB1 := Lib.hid (Below.step HB.out hb1)
    clear hb1
    go_wp2_with (first
      | ((with_reducible refine wp_storePairNew rfl (.tmp 4) (.tmp 9) rfl t b rfl rfl ?_); intro w2 hs2 hb2; have HR2 := Lib.hid (HR1.out.below hb2); have HB2 := Lib.hid (Below.step HB1.out hb2); obtain ⟨d0, d1, d2, d3, d4, d5, d6, d7, d8, d9, d10, d11, d12, d13, d14, d15, d16, d17, d18, d19, d20, d21, d22, d23, d24, d25⟩ := pair_cells hs2; clear hs2 hb2)
      | (go_at_call 124; refine (pairMeander_any b t _ L2.out L1.out).mono ?_; rintro e w3 ⟨v1, v2, rfl, ho1, ho2, hap, hb3⟩; obtain ⟨x1, y1, z1, rfl⟩ := ho1.form'; obtain ⟨x2, y2, z2, rfl⟩ := ho2.form'; have HR3 := Lib.hid (HR2.out.below hb3); have HO1 := Lib.hid ho1; have HO2 := Lib.hid ho2; have HAP := Lib.hid hap; have HB3 := Lib.hid (Below.step HB2.out hb3); have g0 := HR3.out.c0; have g1 := HR3.out.c1; have g2 := HR3.out.free 0; have g3 := HR3.out.free 1; clear ho1 ho2 hap hb3))
    have hlt := HR2.out.lt
    have G2 : ∀ k, (Value.slice x1 y1 z1).ownBlock = some k → (some (w.heap.size + 1) : Option Nat) ≠ some k := fun k hk e => by have h5 := (HO1.out.lt k hk).1; simp at e; omega
    have G3 : ∀ k, (Value.slice x2 y2 z2).ownBlock = some k → (some (w.heap.size + 1) : Option Nat) ≠ some k := fun k hk e => by have h5 := (HO2.out.lt k hk).1; simp at e; omega
    exact bodyPost_ret (results_flip _ _ (w.heap.size + 1) _ _ true ((HR3.out.set0 _).set1 _) rfl rfl) rfl ⟨_, _, rfl, (HO1.out.grown (grown_trans grown_setCell grown_setCell) G2).mono HB2.out.size, (HO2.out.grown (grown_trans grown_setCell grown_setCell) G3).mono HB2.out.size, HAP.out, (HB3.out.setCell (p := ⟨w.heap.size + 1, 0, none⟩) (Nat.le_succ _) _).setCell (p := ⟨w.heap.size + 1, 1, none⟩) (Nat.le_succ _) _⟩


end Go.Proofs.Ytogjclmmjdhfeab
