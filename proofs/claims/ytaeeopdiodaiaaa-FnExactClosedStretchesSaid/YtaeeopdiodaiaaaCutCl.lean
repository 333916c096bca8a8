/- ClosedStretches: the program's function. -/
import Derived.Test.YtaeeopdiodaiaaaCutCs
import Derived.RegionTactic
import Derived.Deep.RegionWith
namespace Go.Proofs.Ytaeeopdiodaiaaa
open Go.RowKit
set_option linter.unusedSimpArgs false
set_option linter.unusedVariables false

attribute [local go_sem ↓] loadV_eq
structure ClS (w0 : World) (g : Nat) (t b : List Int) (w' : World) : Prop where
  src : PairIn w' g t b
  bel : Below w0.heap.size w0 w'
theorem ClS.to {w0 : World} {g : Nat} {t b : List Int} {w' : World} (h : ClS w0 g t b w') : Hid (ClS w0 g t b w') ∧ (loadV (.pointer (some ⟨g, 0, none⟩))).run Try.prog w' = .ok (.agg (pairC t b)) w' :=
  ⟨h, run_loadAt_mid w' g 0 56 (pairC t b).toList _ (row_at h.src) Try.underlying56 rfl (by rw [pair_info]; rfl)⟩
theorem ClS.keep {w0 w1 w2 : World} {g : Nat} {t b : List Int} (hb : Below w1.heap.size w1 w2) (h : Hid (ClS w0 g t b w1)) : Hid (ClS w0 g t b w2) ∧ (loadV (.pointer (some ⟨g, 0, none⟩))).run Try.prog w2 = .ok (.agg (pairC t b)) w2 := ClS.to ⟨h.out.src.below hb, Below.step h.out.bel hb⟩
theorem ClS.drew {w0 w1 : World} {g : Nat} {t b : List Int} (h : ClS w0 g t b w1) : ClS w0 g t b w1.drew := ⟨h.src, Below.drew h.bel⟩
theorem ClS.size {w0 w1 : World} {g : Nat} {t b : List Int} (h : Hid (ClS w0 g t b w1)) : w0.heap.size ≤ w1.heap.size := h.out.bel.size
set_option maxRecDepth 100000 in
set_option maxHeartbeats 4000000 in
theorem impl_ClosedStretches (t b : List Int) (w : World) (u1 u2 : Value) (h1 : Rd w u1 t) (h2 : Rd w u2 b) (m1 : t.length ≤ 1048576) (m2 : b.length ≤ 1048576) :
    Calls Try.prog 17 #[.agg #[u1, u2]] w (GivesLL w (res_ClosedStretches t b) (ok_ClosedStretches t b)) := by
  unfold res_ClosedStretches ok_ClosedStretches
  have hA := Box2.new 28 w u1 u2
  have B1 : Below w.heap.size w (w.alloc (.cells #[u1, u2] 28)) := Below.alloc1 w _
  have k0 := hA.c0; have k1 := hA.c1
  have hrd := readPair_any t b _ u1 u2 (h1.below B1) (h2.below B1)
  have HB := Lib.hid B1
  clear hA B1 h1 h2
  cases h : pairOk t b with
  | false =>
    rw [h] at hrd
    simp only [Bool.false_eq_true, if_false] at hrd ⊢
    have HR := Lib.hid hrd; clear hrd h
    go_enter Try.func17, Try.ntmps17
    go_wp2_with fail
    refine HR.out.mono ?_
    rintro e w1 ⟨rfl, hb1⟩
    have HB1 := Lib.hid (Below.step HB.out hb1); clear hb1 k0 k1
    go_wp2_with ((with_reducible refine wp_storePairN rfl (.tmp 4) (.tmp 9) rfl [] [] rfl rfl ?_); intro w2 hs2 hb2; have HB2 := Lib.hid (Below.step HB1.out hb2); clear hs2 hb2)
    go_ret2
    exact ⟨_, [], rfl, OwnLL.mono (OwnLL.nil _ _ (Nat.le_refl _)) HB2.out.size (Nat.le_refl _) (Nat.le_refl _), HB2.out⟩
  | true =>
    rw [h] at hrd
    simp only [if_true] at hrd ⊢
    have h12 := (pair12 (pairOk_good h)).1
    have HSZ := Lib.hid (fun w => pairSize_any t b w)
    have HPS := Lib.hid (fun w => properStretches_any t.length h12 w)
    have hmem : ∀ p ∈ strAll t.length, p.1 < p.2 ∧ p.2 < 12 := fun p hp => by have := (mem_strAll t.length p).1 hp; unfold proper at this; omega
    have HCH := Lib.hid (fun B w v ho => chosenT_any t b (strAll t.length) hmem (Nat.le_trans (strAll_len h12) (by omega)) B w v ho)
    have hcl : ((strAll t.length).filter fun p => closedL t b p.1 p.2) = cutsL t b := rfl
    rw [hcl] at HCH
    have HLI := Lib.hid (fun B w v ho => listsT_any (cutsL t b) (Nat.le_trans (cutsL_len h12) (by omega)) B w v ho)
    generalize hM : (cutsL t b).map rowOf = M at *
    clear hM
    generalize cutsL t b = C at *
    generalize strAll t.length = L at *
    have HR := Lib.hid hrd; clear hrd h h12 hmem hcl
    go_enter Try.func17, Try.ntmps17
    go_wp2_with fail
    refine HR.out.mono ?_
    rintro e w1 ⟨rfl, hb1⟩
    have HB1 := Lib.hid (Below.step HB.out hb1); clear hb1 k0 k1
    go_wp2_with ((with_reducible refine wp_storePairN rfl (.tmp 4) (.tmp 9) rfl t b rfl rfl ?_); intro w2 hs2 hb2; have HS2 := Lib.hid (show ClS w w1.heap.size t b w2 from ⟨hs2, Below.step HB1.out hb2⟩); clear hs2 hb2)
    generalize w1.heap.size = g1 at *
    obtain ⟨Y0, y0⟩ := ClS.to (ClS.drew HS2.out)
    have HK := Lib.hid (fun (w1 w2 : World) (hb : Below w1.heap.size w1 w2) (h : Hid (ClS w g1 t b w1)) => ClS.keep hb h)
    have HKS := Lib.hid (fun (w1 : World) (h : Hid (ClS w g1 t b w1)) => ClS.size h)
    have HFIN := Lib.hid (fun (w1 : World) (h : Hid (ClS w g1 t b w1)) => h.out.bel)
    generalize t.length = n at *
    have hP : ∃ P, pairC t b = P := ⟨_, rfl⟩
    obtain ⟨P, hP⟩ := hP
    rw [hP] at HSZ HCH HK y0 ⊢
    clear hP
    go_region_with (first
      | (go_at_call 48; ((with_reducible refine (HSZ.out _).mono ?_); rintro e' w' ⟨rfl, hb'⟩; obtain ⟨Y1, y1⟩ := HK.out _ _ hb' (by assumption)))
      | (go_at_call 47; ((with_reducible refine (HPS.out _).mono ?_); rintro e' w' ⟨v1, rfl, ho1, hb'⟩; obtain ⟨a1, c1, rfl, -, -⟩ := ho1.form; have HO1 := Lib.hid ho1; obtain ⟨Y2, y2⟩ := HK.out _ _ hb' (by assumption)))
      | (go_at_call 46; ((with_reducible refine (HCH.out _ _ _ HO1.out).mono ?_); rintro e' w' ⟨v2, rfl, ho2, hb'⟩; obtain ⟨a2, c2, rfl, -, -⟩ := ho2.form; have HO2 := Lib.hid ho2; obtain ⟨Y3, y3⟩ := HK.out _ _ hb' (by assumption)))
      | (go_at_call 45; ((with_reducible refine (HLI.out _ _ _ HO2.out).mono ?_); rintro e' w' ⟨v3, vs3, rfl, ho3, hb'⟩; obtain ⟨a3, c3, rfl, -, -⟩ := ho3.form; have HO3 := Lib.hid (OwnLL.mono ho3 (HKS.out _ (by assumption)) (Nat.le_refl _) (Nat.le_refl _)); obtain ⟨Y4, y4⟩ := HK.out _ _ hb' (by assumption); have HB4 := Lib.hid (HFIN.out _ Y4))))
    all_goals
      go_wp2_with fail
      go_ret2
      exact ⟨_, _, rfl, HO3.out, HB4.out⟩

end Go.Proofs.Ytaeeopdiodaiaaa
