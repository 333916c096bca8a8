/- stStep, a step in the model. -/
import Derived.Test.YtnkkgbecdckigacStepG
import Derived.Test.YtnkkgbecdckigacStMir
import Derived.Test.YtnkkgbecdckigacRowApp
import Derived.RegionTactic
import Derived.Deep.RegionWith
import Derived.Deep.DeepCutAuto
namespace Go.Proofs.Ytnkkgbecdckigac
open Go.RowKit
set_option linter.unusedSimpArgs false
set_option linter.unusedVariables false

def MadeStO (w : World) (u d : List Int) (c : Int) (ok : Bool) (e : Ending) (w' : World) : Prop := ∃ v1 v2, e = .returned (.tuple #[.agg #[v1, v2, .int .i64 c], .bool ok]) ∧ Own w.heap.size w' v1 u ∧ Own w.heap.size w' v2 d ∧ ApartS v1 v2 ∧ Below w.heap.size w w'
theorem len_of {B : Nat} {w : World} {a : Option Addr} {n c : Nat} {l : List Int} (h : Own B w (.slice a n c) l) : n = l.length := by
  obtain ⟨a', c', hv, _⟩ := h.rd
  simp at hv; exact hv.2.1
theorem results_sst (tmps : Array Value) (w : World) (g : Nat) (v1 v2 v3 : Value) (ok : Bool) (hg : Box3 26 w g v1 v2 v3) (h4 : tmps.getD 4 undef = .pointer (some ⟨g, 0, none⟩)) (h5 : tmps.getD 5 undef = .bool ok) :
    (results Try.f50 tmps).run Try.prog w = .ok (.tuple #[.agg #[v1, v2, v3], .bool ok]) w := by
  have h4' : tmps[4]?.getD undef = .pointer (some ⟨g, 0, none⟩) := by simpa using h4
  have h5' : tmps[5]?.getD undef = .bool ok := by simpa using h5
  have hr : Try.f50.results = #[.cell 4 26, .tmp 5] := by kernel_rfl
  simp [results, hr, h4', h5', asAddr, run_loadSt w g v1 v2 v3 hg]
theorem Box3.under {T : TypeId} {w w' : World} {b B : Nat} {v1 v2 v3 : Value} (h : Box3 T w b v1 v2 v3) (hb : Below B w w') (hB : b < B) : Box3 T w' b v1 v2 v3 := (hb.block b hB).trans h
theorem own_at2 {B : Nat} {w : World} {v : Value} {l : List Int} (h : Own B w v l) (h0 : 0 < l.length) : ∃ g c, v = .slice (some ⟨g, 0, none⟩) l.length c := by
  rcases h.shape with ⟨_, h2⟩ | ⟨g, c, h1, _⟩
  · rw [h2] at h0; simp at h0
  · exact ⟨g, c, h1⟩
set_option maxHeartbeats 4000000 in
set_option maxRecDepth 100000 in
theorem stStep_no (u d : List Int) (c k : Int) (w : World) (v1 v2 : Value) (h1 : Rd w v1 u) (h2 : Rd w v2 d) (hu : u.length ≤ 6) (hd : d.length ≤ 6) (hk : (2 ≤ k ∧ k ≤ 3 ∧ u.length = 0) ∨ ((k = 1 ∨ k = 3) ∧ d.length = 0)) :
    Calls Try.prog 50 #[.agg #[v1, v2, .int .i64 c], .int .i64 k] w (MadeStO w [] [] 0 false) := by
  have hA0 := Box3.new 26 w v1 v2 (.int .i64 c)
  have hA := hA0.below (Below.alloc1 _ (.cells #[.slice none 0 0, .slice none 0 0, .int .i64 0] 26))
  have hR := Box3.new 26 (w.alloc (.cells #[v1, v2, .int .i64 c] 26)) (.slice none 0 0) (.slice none 0 0) (.int .i64 0)
  rw [World.size_alloc] at hR
  have B2 := Below.step (Below.alloc1 w (.cells #[v1, v2, .int .i64 c] 26)) (Below.alloc1 _ (.cells #[.slice none 0 0, .slice none 0 0, .int .i64 0] 26))
  have R1 := h1.below B2; have R2 := h2.below B2
  have k0 := hA.c0; have k1 := hA.c1; have k2 := hA.c2
  have hsz : w.heap.size + 2 ≤ ((w.alloc (.cells #[v1, v2, .int .i64 c] 26)).alloc (.cells #[.slice none 0 0, .slice none 0 0, .int .i64 0] 26)).heap.size := by simp
  have HO1 := Lib.hid (fun W (h : Rd W v1 u) => l1Own_any v1 u W h (by omega))
  have HO2 := Lib.hid (fun W (h : Rd W v2 d) => l1Own_any v2 d W h (by omega))
  have HA := Lib.hid hA; have HR := Lib.hid hR; have HB := Lib.hid B2; have HR1 := Lib.hid R1; have HR2 := Lib.hid R2; have HSZ := Lib.hid hsz
  obtain ⟨nu, hnu⟩ : ∃ n, n = u.length := ⟨_, rfl⟩
  obtain ⟨nd, hnd⟩ : ∃ n, n = d.length := ⟨_, rfl⟩
  have HNU := Lib.hid hnu; have HND := Lib.hid hnd
  rw [← hnu] at hu
  rw [← hnu] at hk
  rw [← hnd] at hd
  rw [← hnd] at hk
  clear hA0 hA hR B2 R1 R2 h1 h2 hsz hnu hnd
  go_enter Try.func50, Try.ntmps50
  go_wp2_with fail
  generalize hW2 : ((w.alloc (.cells #[v1, v2, .int .i64 c] 26)).alloc (.cells #[.slice none 0 0, .slice none 0 0, .int .i64 0] 26)) = W2 at HA HR HB HR1 HR2 HSZ k0 k1 k2 ⊢
  clear hW2
  go_cut [6, 7] (fun s6 s7 wx => ∃ (a1 : Option Addr) (c1 : Nat) (a2 : Option Addr) (c2 : Nat), s6 = .slice a1 nu c1 ∧ s7 = .slice a2 nd c2 ∧ Hid (Own (w.heap.size + 2) wx (.slice a1 nu c1) u) ∧ Hid (Own (w.heap.size + 2) wx (.slice a2 nd c2) d) ∧ Hid (ApartS (.slice a1 nu c1) (.slice a2 nd c2)) ∧ Hid (Box3 26 wx w.heap.size v1 v2 (.int .i64 c)) ∧ Hid (Box3 26 wx (w.heap.size + 1) (.slice none 0 0) (.slice none 0 0) (.int .i64 0)) ∧ Hid (Below w.heap.size w wx))
  case first =>
    go_region_with (first
      | (go_at_call 68; ((refine (HO1.out _ (show Rd (World.drew W2) v1 u from HR1.out)).mono ?_); rintro e w1 ⟨x1, rfl, ho1, hb1⟩; have hb1' : Below W2.heap.size W2 w1 := ((Below.refl _ W2).drew).trans hb1; have HX1 := Lib.hid hb1'; have HP1 := Lib.hid ho1; have HA1 := Lib.hid (HA.out.below hb1'); have j0 := HA1.out.c0; have j1 := HA1.out.c1; have j2 := HA1.out.c2; obtain ⟨f1, f2, f3, rfl⟩ := ho1.form'; clear ho1 hb1 hb1'))
      | (go_at_call 68; ((refine (HO2.out _ (HR2.out.below HX1.out)).mono ?_); rintro e w2 ⟨x2, rfl, ho2, hb2⟩; have HP2 := Lib.hid ho2; have HP12 := Lib.hid (HP1.out.below hb2); have HX2 := Lib.hid (Below.step HX1.out hb2); obtain ⟨f4, f5, f6, rfl⟩ := ho2.form'; clear ho2 hb2)))
    all_goals
      have e1 := len_of HP1.out; have e2 := len_of HP2.out
      have HAP : Hid (ApartS (.slice f1 f2 f3) (.slice f4 f5 f6)) := (fun k hk hk' => by have h5 := (HP1.out.lt k hk).2; have h6 := (HP2.out.lt k hk').1; omega)
      rw [← HNU.out] at e1; rw [← HND.out] at e2
      subst e1; subst e2
      have HQ1 := Lib.hid (HP12.out.mono HSZ.out)
      have HQ2 := Lib.hid (HP2.out.mono (Nat.le_trans HSZ.out HX1.out.size))
      have HA2 := Lib.hid (HA.out.below HX2.out); have HR2' := Lib.hid (HR.out.below HX2.out); have HB2 := Lib.hid (Below.step HB.out HX2.out)
      go_wp2_with fail
      go_meet
      case rel => exact ⟨f1, f3, f4, f6, rfl, rfl, HQ1, HQ2, HAP, HA2, HR2', HB2⟩
  case rest =>
  obtain ⟨a1, c1, a2, c2, rfl, rfl, HU, HD, HAP, HA3, HR3, HB3⟩ := hcut
  generalize wc = w3 at *
  clear k0 k1 k2 HR1 HR2 HSZ HA HR HB HO1 HO2
  have k2 := HA3.out.c2
  have r0 := HR3.out.c0; have r1 := HR3.out.c1; have r2 := HR3.out.c2; have g0 := HR3.out.free 0; have g1 := HR3.out.free 1; have g2 := HR3.out.free 2
  have fin : ∀ a : Act, a.defers = [] → a.tmps.getD 4 undef = .pointer (some ⟨w.heap.size + 1, 0, none⟩) → a.tmps.getD 5 undef = .bool false → bodyPost Try.prog Try.f50 (MadeStO w [] [] 0 false) .ret a (((w3.setCell ⟨w.heap.size + 1, 0, none⟩ (.slice none 0 0)).setCell ⟨w.heap.size + 1, 1, none⟩ (.slice none 0 0)).setCell ⟨w.heap.size + 1, 2, none⟩ (.int .i64 0)) := fun a h0 h4 h5 =>
    bodyPost_ret (results_sst _ _ (w.heap.size + 1) _ _ _ false (((HR3.out.set0 _).set1 _).set2 _) h4 h5) h0 ⟨_, _, rfl, Own.nil _ _, Own.nil _ _, ApartS.nil _, ((HB3.out.setCell (p := ⟨w.heap.size + 1, 0, none⟩) (Nat.le_succ _) _).setCell (p := ⟨w.heap.size + 1, 1, none⟩) (Nat.le_succ _) _).setCell (p := ⟨w.heap.size + 1, 2, none⟩) (Nat.le_succ _) _⟩
  have FIN := Lib.hid fin
  clear fin
  rcases hk with ⟨q1, q2, q3⟩ | ⟨q1 | q1, q3⟩
  · have hk2 : decide ((nu : Int) - 1 < 0) = true := by simp; omega
    have hk1 : decide (2 ≤ k) = true := by simp; omega
    go_wp2
    exact FIN.out _ rfl rfl rfl
  · subst q1
    have hk2 : (nd : Int) - 1 < 0 := by omega
    go_wp2
    exact FIN.out _ rfl rfl rfl
  · subst q1
    by_cases h0 : nu = 0
    · have hk1 : (nu : Int) - 1 < 0 := by omega
      go_wp2
      exact FIN.out _ rfl rfl rfl
    · have hk2 : (nd : Int) - 1 < 0 := by omega
      have hk1 : ¬ (nu : Int) - 1 < 0 := by omega
      go_wp2
      exact FIN.out _ rfl rfl rfl

end Go.Proofs.Ytnkkgbecdckigac
