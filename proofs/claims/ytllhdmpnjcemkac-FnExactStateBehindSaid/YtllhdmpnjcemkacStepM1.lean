/- A step in the model: k is 0, 1, 2. -/
import Derived.Test.YtllhdmpnjcemkacStepG
import Derived.Test.YtllhdmpnjcemkacShift
import Derived.Test.YtllhdmpnjcemkacCrosses
import Derived.Deep.QuietTactic
import Derived.BigQuiet
namespace Go.Proofs.Ytllhdmpnjcemkac
open Go.RowKit
set_option linter.unusedSimpArgs false
set_option linter.unusedVariables false

set_option maxHeartbeats 8000000 in
set_option maxRecDepth 100000 in
theorem stStep0 (u d : List Int) (c : Int) (w : World) (v1 v2 : Value) (h1 : Rd w v1 u) (h2 : Rd w v2 d) (hu : u.length ≤ 6) (hd : d.length ≤ 6) :
    Calls Try.prog 52 #[.agg #[v1, v2, .int .i64 c], .int .i64 0] w (MadeStO w (renU (u ++ [-1])) (renD (u ++ [-1]) (d ++ [-1])) (c) (stateB (renU (u ++ [-1])) (renD (u ++ [-1]) (d ++ [-1])) (c))) := by
  have hA0 := Box3.new 27 w v1 v2 (.int .i64 c)
  have hA := hA0.below (Below.alloc1 _ (.cells #[.slice none 0 0, .slice none 0 0, .int .i64 0] 27))
  have hR := Box3.new 27 (w.alloc (.cells #[v1, v2, .int .i64 c] 27)) (.slice none 0 0) (.slice none 0 0) (.int .i64 0)
  rw [World.size_alloc] at hR
  have B2 := Below.step (Below.alloc1 w (.cells #[v1, v2, .int .i64 c] 27)) (Below.alloc1 _ (.cells #[.slice none 0 0, .slice none 0 0, .int .i64 0] 27))
  have R1 := h1.below B2; have R2 := h2.below B2
  have k0 := hA.c0; have k1 := hA.c1; have k2 := hA.c2
  have hsz : w.heap.size + 2 ≤ ((w.alloc (.cells #[v1, v2, .int .i64 c] 27)).alloc (.cells #[.slice none 0 0, .slice none 0 0, .int .i64 0] 27)).heap.size := by simp
  have HO1 := Lib.hid (fun W (h : Rd W v1 u) => l1Own_any v1 u W h (by omega))
  have HO2 := Lib.hid (fun W (h : Rd W v2 d) => l1Own_any v2 d W h (by omega))
  have HA := Lib.hid hA; have HR := Lib.hid hR; have HB := Lib.hid B2; have HR1 := Lib.hid R1; have HR2 := Lib.hid R2; have HSZ := Lib.hid hsz
  obtain ⟨nu, hnu⟩ : ∃ n, n = u.length := ⟨_, rfl⟩
  obtain ⟨nd, hnd⟩ : ∃ n, n = d.length := ⟨_, rfl⟩
  have HNU := Lib.hid hnu; have HND := Lib.hid hnd
  rw [← hnu] at hu
  rw [← hnd] at hd
  clear hA0 hA hR B2 R1 R2 h1 h2 hsz hnu hnd
  go_enter Try.func52, Try.ntmps52
  go_wp2_with fail
  generalize hW2 : ((w.alloc (.cells #[v1, v2, .int .i64 c] 27)).alloc (.cells #[.slice none 0 0, .slice none 0 0, .int .i64 0] 27)) = W2 at HA HR HB HR1 HR2 HSZ k0 k1 k2 ⊢
  clear hW2
  go_cut [6, 7] (fun s6 s7 wx => ∃ (a1 : Option Addr) (c1 : Nat) (a2 : Option Addr) (c2 : Nat), s6 = .slice a1 nu c1 ∧ s7 = .slice a2 nd c2 ∧ Hid (Own (w.heap.size + 2) wx (.slice a1 nu c1) u) ∧ Hid (Own (w.heap.size + 2) wx (.slice a2 nd c2) d) ∧ Hid (ApartS (.slice a1 nu c1) (.slice a2 nd c2)) ∧ Hid (Box3 27 wx w.heap.size v1 v2 (.int .i64 c)) ∧ Hid (Box3 27 wx (w.heap.size + 1) (.slice none 0 0) (.slice none 0 0) (.int .i64 0)) ∧ Hid (Below w.heap.size w wx))
  case first =>
    go_region_with (first
      | (go_at_call 74; ((refine (HO1.out _ (show Rd (World.drew W2) v1 u from HR1.out)).mono ?_); rintro e w1 ⟨x1, rfl, ho1, hb1⟩; have hb1' : Below W2.heap.size W2 w1 := ((Below.refl _ W2).drew).trans hb1; have HX1 := Lib.hid hb1'; have HP1 := Lib.hid ho1; have HA1 := Lib.hid (HA.out.below hb1'); have j0 := HA1.out.c0; have j1 := HA1.out.c1; have j2 := HA1.out.c2; obtain ⟨f1, f2, f3, rfl⟩ := ho1.form'; clear ho1 hb1 hb1'))
      | (go_at_call 74; ((refine (HO2.out _ (HR2.out.below HX1.out)).mono ?_); rintro e w2 ⟨x2, rfl, ho2, hb2⟩; have HP2 := Lib.hid ho2; have HP12 := Lib.hid (HP1.out.below hb2); have HX2 := Lib.hid (Below.step HX1.out hb2); obtain ⟨f4, f5, f6, rfl⟩ := ho2.form'; clear ho2 hb2)))
    all_goals
      have e1 := len_of HP1.out; have e2 := len_of HP2.out
      have HAP : Hid (ApartS (.slice f1 f2 f3) (.slice f4 f5 f6)) := (fun k hk hk' => by have h5 := (HP1.out.lt k hk).2; have h6 := (HP2.out.lt k hk').1; omega)
      rw [← HNU.out] at e1; rw [← HND.out] at e2
      subst e1; subst e2
      have HQ1 := Lib.hid (HP12.out.mono HSZ.out)
      have HQ2 := Lib.hid (HP2.out.mono (Nat.le_trans HSZ.out HX1.out.size))
      have HA2 := Lib.hid (HA.out.below HX2.out); have HR2' := Lib.hid (HR.out.below HX2.out); have HB2 := Lib.hid (Below.step HB.out HX2.out)
      go_wp2_with fail
      go_meet
      case rel => exact ⟨f1, f3, f4, f6, rfl, rfl, HQ1, HQ2, HAP, HA2, HR2', HB2⟩
  case rest =>
  obtain ⟨a1, c1, a2, c2, rfl, rfl, HU, HD, HAP, HA3, HR3, HB3⟩ := hcut
  generalize wc = w3 at *
  clear k0 k1 k2 HR1 HR2 HSZ HA HR HB HO1 HO2
  have k2 := HA3.out.c2
  have hBS : w.heap.size + 2 ≤ w3.heap.size := by have := HR3.out.lt; omega
  go_wp2_with (first
    | (at_builtin; refine wp_appendW _ rfl (.tmp 102) (.tmp 103) rfl (w.heap.size + 2) w3.heap.size _ u (-1) rfl rfl (by rw [cell_of_row _ _ _ _ _ _ (heap_alloc_new w3 _)]; rfl) (HU.out.below (Below.alloc1 _ _)) (by have := HNU.out; omega) (by simp; omega) ?_; intro v4 w4 ho4 hg4 hb4 hw4; have HU4 := Lib.hid ho4; have HD4 := Lib.hid ((HD.out.below (Below.alloc1 w3 (.cells #[.int .i64 (-1)] 3))).grown hg4 (fun q hq e => HAP.out q e hq)); have HAP4 : Hid (ApartS v4 (.slice a2 nd c2)) := (fun q hq hq2 => by rcases hw4 q hq with h8 | h8; exact HAP.out q h8 hq2; have := (HD.out.lt q hq2).2; simp at h8; omega); have HR4 := Lib.hid (((Box3.below HR3.out (Below.alloc1 w3 (.cells #[.int .i64 (-1)] 3)))).under hb4 (by omega)); have HB4 := Lib.hid ((Below.step HB3.out (Below.alloc1 w3 (.cells #[.int .i64 (-1)] 3))).trans (hb4.mono (by omega))); have hBS4 : w.heap.size + 2 ≤ w4.heap.size := (by have := HR4.out.lt; omega); obtain ⟨a4, n4, c4, rfl⟩ := ho4.form'; clear ho4 hg4 hb4 hw4)
    | (at_builtin; refine wp_appendW _ rfl (.tmp 105) (.tmp 106) rfl (w.heap.size + 2) w4.heap.size _ d (-1) rfl rfl (by rw [cell_of_row _ _ _ _ _ _ (heap_alloc_new w4 _)]; rfl) (HD4.out.below (Below.alloc1 _ _)) (by have := HND.out; omega) (by simp; omega) ?_; intro v5 w5 ho5 hg5 hb5 hw5; have HD5 := Lib.hid ho5; have HU5 := Lib.hid ((HU4.out.below (Below.alloc1 w4 (.cells #[.int .i64 (-1)] 3))).grown hg5 (fun q hq e => HAP4.out q hq e)); have HR5 := Lib.hid (((Box3.below HR4.out (Below.alloc1 w4 (.cells #[.int .i64 (-1)] 3)))).under hb5 (by omega)); have HB5 := Lib.hid ((Below.step HB4.out (Below.alloc1 w4 (.cells #[.int .i64 (-1)] 3))).trans (hb5.mono (by omega))); obtain ⟨a5, n5, c5, rfl⟩ := ho5.form'; have HGE : Hid (w.heap.size + 2 ≤ w5.heap.size) := (by show _ ≤ _; have := HR5.out.lt; omega); clear ho5 hg5 hb5 hw5)
    | fail)
  have hrn := fun W (q1 : Rd W (.slice a4 n4 c4) (u ++ [-1])) (q2 : Rd W (.slice a5 n5 c5) (d ++ [-1])) => stRename_full (.slice a4 n4 c4) (.slice a5 n5 c5) (u ++ [-1]) (d ++ [-1]) W q1 q2 (by have := HNU.out; simp; omega) (by have := HND.out; simp; omega)
  have HRN := Lib.hid hrn
  have HG := Lib.hid (fun W x1 x2 (q1 : Rd W x1 (renU (u ++ [-1]))) (q2 : Rd W x2 (renD (u ++ [-1]) (d ++ [-1]))) => stGood_any x1 x2 (renU (u ++ [-1])) (renD (u ++ [-1]) (d ++ [-1])) (c) W q1 q2)
  clear hrn
  generalize renU (u ++ [-1]) = ru at *
  generalize renD (u ++ [-1]) (d ++ [-1]) = rd at *
  generalize stateB ru rd (c) = sb at *
  go_wp2_with (go_at_call 75; ((with_reducible refine (HRN.out _ HU5.out.rd HD5.out.rd).mono ?_); rintro e w8 ⟨y1, y2, rfl, po1, po2, hb8, hap8⟩; obtain ⟨m1, m2, m3, rfl⟩ := po1.form'; obtain ⟨m4, m5, m6, rfl⟩ := po2.form'; have PO1 := Lib.hid po1; have PO2 := Lib.hid po2; have PAP := Lib.hid hap8; have HR8 := Lib.hid (HR5.out.below hb8); have HB8 := Lib.hid (Below.step HB5.out hb8); have HS8 := Lib.hid (Nat.le_trans HGE.out (Nat.le_refl _)); clear po1 po2 hap8 hb8))
  have hN := Box3.new 27 w8 (.slice m1 m2 m3) (.slice m4 m5 m6) (.int .i64 (c))
  have n0 := hN.c0; have n1 := hN.c1; have n2 := hN.c2
  have HR9 := Lib.hid (HR8.out.below (Below.alloc1 _ (.cells #[.slice m1 m2 m3, .slice m4 m5 m6, .int .i64 (c)] 27)))
  have Q1 := Lib.hid (PO1.out.below (Below.alloc1 _ (.cells #[.slice m1 m2 m3, .slice m4 m5 m6, .int .i64 (c)] 27)))
  have Q2 := Lib.hid (PO2.out.below (Below.alloc1 _ (.cells #[.slice m1 m2 m3, .slice m4 m5 m6, .int .i64 (c)] 27)))
  have HB9 := Lib.hid (Below.step HB8.out (Below.alloc1 _ (.cells #[.slice m1 m2 m3, .slice m4 m5 m6, .int .i64 (c)] 27)))
  have HN := Lib.hid hN
  clear hN
  generalize (w8.alloc (.cells #[.slice m1 m2 m3, .slice m4 m5 m6, .int .i64 (c)] 27)) = w9 at *
  go_region_with (go_at_call 59; ((refine (HG.out _ _ _ (show Rd (World.drew w9) _ _ from Q1.out.rd) (show Rd (World.drew w9) _ _ from Q2.out.rd)).mono ?_); rintro e w10 ⟨rfl, hb10⟩; have hbx : Below w9.heap.size w9 w10 := ((Below.refl _ w9).drew).trans hb10; have HR10 := Lib.hid (HR9.out.below hbx); have T1 := Lib.hid (Q1.out.below hbx); have T2 := Lib.hid (Q2.out.below hbx); have HB10 := Lib.hid (Below.step HB9.out hbx); have r0 := HR10.out.c0; have r1 := HR10.out.c1; have r2 := HR10.out.c2; have g0 := HR10.out.free 0; have g1 := HR10.out.free 1; have g2 := HR10.out.free 2; have z0 := (HN.out.below hbx).c0; have z1 := (HN.out.below hbx).c1; have z2 := (HN.out.below hbx).c2; clear hb10 hbx))
  all_goals
    have G1 : ∀ k, (Value.slice m1 m2 m3).ownBlock = some k → (some (w.heap.size + 1) : Option Nat) ≠ some k := fun k hk e => by have h5 := (T1.out.lt k hk).1; have := HGE.out; simp at e; omega
    have G2 : ∀ k, (Value.slice m4 m5 m6).ownBlock = some k → (some (w.heap.size + 1) : Option Nat) ≠ some k := fun k hk e => by have h5 := (T2.out.lt k hk).1; have := HGE.out; simp at e; omega
    go_wp2
    exact bodyPost_ret (results_sst _ _ (w.heap.size + 1) _ _ _ sb (((HR10.out.set0 _).set1 _).set2 _) rfl rfl) rfl ⟨_, _, rfl, (T1.out.grown (grownS_trans (grownS_trans grownS_setCell grownS_setCell) grownS_setCell) G1).mono (by have := HGE.out; omega), (T2.out.grown (grownS_trans (grownS_trans grownS_setCell grownS_setCell) grownS_setCell) G2).mono (by have := HGE.out; omega), PAP.out, ((HB10.out.setCell (p := ⟨w.heap.size + 1, 0, none⟩) (Nat.le_succ _) _).setCell (p := ⟨w.heap.size + 1, 1, none⟩) (Nat.le_succ _) _).setCell (p := ⟨w.heap.size + 1, 2, none⟩) (Nat.le_succ _) _⟩
set_option maxHeartbeats 8000000 in
set_option maxRecDepth 100000 in
theorem stStep1 (u d d0 : List Int) (x c : Int) (w : World) (v1 v2 : Value) (h1 : Rd w v1 u) (h2 : Rd w v2 d) (hu : u.length ≤ 6) (hd : d.length ≤ 6) (hx : d = d0 ++ [x]) :
    Calls Try.prog 52 #[.agg #[v1, v2, .int .i64 c], .int .i64 1] w (MadeStO w (renU (u ++ [x])) (renD (u ++ [x]) (d0)) (c) (stateB (renU (u ++ [x])) (renD (u ++ [x]) (d0)) (c))) := by
  have hA0 := Box3.new 27 w v1 v2 (.int .i64 c)
  have hA := hA0.below (Below.alloc1 _ (.cells #[.slice none 0 0, .slice none 0 0, .int .i64 0] 27))
  have hR := Box3.new 27 (w.alloc (.cells #[v1, v2, .int .i64 c] 27)) (.slice none 0 0) (.slice none 0 0) (.int .i64 0)
  rw [World.size_alloc] at hR
  have B2 := Below.step (Below.alloc1 w (.cells #[v1, v2, .int .i64 c] 27)) (Below.alloc1 _ (.cells #[.slice none 0 0, .slice none 0 0, .int .i64 0] 27))
  have R1 := h1.below B2; have R2 := h2.below B2
  have k0 := hA.c0; have k1 := hA.c1; have k2 := hA.c2
  have hsz : w.heap.size + 2 ≤ ((w.alloc (.cells #[v1, v2, .int .i64 c] 27)).alloc (.cells #[.slice none 0 0, .slice none 0 0, .int .i64 0] 27)).heap.size := by simp
  have HO1 := Lib.hid (fun W (h : Rd W v1 u) => l1Own_any v1 u W h (by omega))
  have HO2 := Lib.hid (fun W (h : Rd W v2 d) => l1Own_any v2 d W h (by omega))
  have HA := Lib.hid hA; have HR := Lib.hid hR; have HB := Lib.hid B2; have HR1 := Lib.hid R1; have HR2 := Lib.hid R2; have HSZ := Lib.hid hsz
  obtain ⟨nu, hnu⟩ : ∃ n, n = u.length := ⟨_, rfl⟩
  obtain ⟨nd, hnd⟩ : ∃ n, n = d.length := ⟨_, rfl⟩
  have HNU := Lib.hid hnu; have HND := Lib.hid hnd
  rw [← hnu] at hu
  rw [← hnd] at hd
  clear hA0 hA hR B2 R1 R2 h1 h2 hsz hnu hnd
  go_enter Try.func52, Try.ntmps52
  go_wp2_with fail
  generalize hW2 : ((w.alloc (.cells #[v1, v2, .int .i64 c] 27)).alloc (.cells #[.slice none 0 0, .slice none 0 0, .int .i64 0] 27)) = W2 at HA HR HB HR1 HR2 HSZ k0 k1 k2 ⊢
  clear hW2
  go_cut [6, 7] (fun s6 s7 wx => ∃ (a1 : Option Addr) (c1 : Nat) (a2 : Option Addr) (c2 : Nat), s6 = .slice a1 nu c1 ∧ s7 = .slice a2 nd c2 ∧ Hid (Own (w.heap.size + 2) wx (.slice a1 nu c1) u) ∧ Hid (Own (w.heap.size + 2) wx (.slice a2 nd c2) d) ∧ Hid (ApartS (.slice a1 nu c1) (.slice a2 nd c2)) ∧ Hid (Box3 27 wx w.heap.size v1 v2 (.int .i64 c)) ∧ Hid (Box3 27 wx (w.heap.size + 1) (.slice none 0 0) (.slice none 0 0) (.int .i64 0)) ∧ Hid (Below w.heap.size w wx))
  case first =>
    go_region_with (first
      | (go_at_call 74; ((refine (HO1.out _ (show Rd (World.drew W2) v1 u from HR1.out)).mono ?_); rintro e w1 ⟨x1, rfl, ho1, hb1⟩; have hb1' : Below W2.heap.size W2 w1 := ((Below.refl _ W2).drew).trans hb1; have HX1 := Lib.hid hb1'; have HP1 := Lib.hid ho1; have HA1 := Lib.hid (HA.out.below hb1'); have j0 := HA1.out.c0; have j1 := HA1.out.c1; have j2 := HA1.out.c2; obtain ⟨f1, f2, f3, rfl⟩ := ho1.form'; clear ho1 hb1 hb1'))
      | (go_at_call 74; ((refine (HO2.out _ (HR2.out.below HX1.out)).mono ?_); rintro e w2 ⟨x2, rfl, ho2, hb2⟩; have HP2 := Lib.hid ho2; have HP12 := Lib.hid (HP1.out.below hb2); have HX2 := Lib.hid (Below.step HX1.out hb2); obtain ⟨f4, f5, f6, rfl⟩ := ho2.form'; clear ho2 hb2)))
    all_goals
      have e1 := len_of HP1.out; have e2 := len_of HP2.out
      have HAP : Hid (ApartS (.slice f1 f2 f3) (.slice f4 f5 f6)) := (fun k hk hk' => by have h5 := (HP1.out.lt k hk).2; have h6 := (HP2.out.lt k hk').1; omega)
      rw [← HNU.out] at e1; rw [← HND.out] at e2
      subst e1; subst e2
      have HQ1 := Lib.hid (HP12.out.mono HSZ.out)
      have HQ2 := Lib.hid (HP2.out.mono (Nat.le_trans HSZ.out HX1.out.size))
      have HA2 := Lib.hid (HA.out.below HX2.out); have HR2' := Lib.hid (HR.out.below HX2.out); have HB2 := Lib.hid (Below.step HB.out HX2.out)
      go_wp2_with fail
      go_meet
      case rel => exact ⟨f1, f3, f4, f6, rfl, rfl, HQ1, HQ2, HAP, HA2, HR2', HB2⟩
  case rest =>
  obtain ⟨a1, c1, a2, c2, rfl, rfl, HU, HD, HAP, HA3, HR3, HB3⟩ := hcut
  generalize wc = w3 at *
  clear k0 k1 k2 HR1 HR2 HSZ HA HR HB HO1 HO2
  have k2 := HA3.out.c2
  have hBS : w.heap.size + 2 ≤ w3.heap.size := by have := HR3.out.lt; omega
  obtain ⟨m, hm⟩ : ∃ m, m = d0.length := ⟨_, rfl⟩
  have hn1 : nd = m + 1 := by rw [HND.out, hx, hm]; simp
  have hmi : (nd : Int) - 1 = (m : Int) := by omega
  have hneg : ¬ ((m : Int) < 0) := by omega
  obtain ⟨g2, cc2, hv2⟩ := own_at2 HD.out (by rw [hx]; simp)
  simp only [Value.slice.injEq] at hv2
  obtain ⟨rfl, -, rfl⟩ := hv2
  have hcx := HD.out.cellAt m (by rw [hx, hm]; simp)
  rw [show d.getD m 0 = x by rw [hx, hm]; simp [List.getD]] at hcx
  obtain ⟨_, _, hfv, hcap1, hcap2⟩ := HD.out.form
  simp only [Value.slice.injEq] at hfv
  obtain ⟨-, -, rfl⟩ := hfv
  rw [← HND.out] at hcap1
  unfold maxLen at hcap2
  have HCUT := Lib.hid (HD.out.cut m (by omega))
  rw [show d.take m = d0 by rw [hx, hm]; simp] at HCUT
  have HX := Lib.hid hx; have HM0 := Lib.hid hm
  have hm5 : m ≤ 5 := by omega
  have hlt1 : (m : Int) < (nd : Int) := by omega
  have hlt2 : m < nd := by omega
  have hlt3 : m ≤ c2 := by omega
  clear hx hm hn1
  go_wp2_with (first
    | (at_builtin; refine wp_appendW _ rfl (.tmp 110) (.tmp 115) rfl (w.heap.size + 2) w3.heap.size _ u x rfl rfl (by rw [cell_of_row _ _ _ _ _ _ (heap_alloc_new w3 _)]; rfl) (HU.out.below (Below.alloc1 _ _)) (by have := HNU.out; omega) (by simp; omega) ?_; intro v4 w4 ho4 hg4 hb4 hw4; have HM4 := Lib.hid ho4; have HL4 := Lib.hid ((HCUT.out.below (Below.alloc1 w3 (.cells #[.int .i64 x] 3))).grown hg4 (fun q hq e => HAP.out q e hq)); have HR4 := Lib.hid (((Box3.below HR3.out (Below.alloc1 w3 (.cells #[.int .i64 x] 3)))).under hb4 (by omega)); have HB4 := Lib.hid ((Below.step HB3.out (Below.alloc1 w3 (.cells #[.int .i64 x] 3))).trans (hb4.mono (by omega))); obtain ⟨a4, n4, c4, rfl⟩ := ho4.form'; have HGE : Hid (w.heap.size + 2 ≤ w4.heap.size) := (by show _ ≤ _; have := HR4.out.lt; omega); clear ho4 hg4 hb4 hw4)
    | fail)
  have hrn := fun W (q1 : Rd W (.slice a4 n4 c4) (u ++ [x])) (q2 : Rd W (.slice (some ⟨g2, 0, none⟩) m c2) (d0)) => stRename_full (.slice a4 n4 c4) (.slice (some ⟨g2, 0, none⟩) m c2) (u ++ [x]) (d0) W q1 q2 (by have := HNU.out; simp; omega) (by have := HM0.out; omega)
  have HRN := Lib.hid hrn
  have HG := Lib.hid (fun W x1 x2 (q1 : Rd W x1 (renU (u ++ [x]))) (q2 : Rd W x2 (renD (u ++ [x]) (d0))) => stGood_any x1 x2 (renU (u ++ [x])) (renD (u ++ [x]) (d0)) (c) W q1 q2)
  clear hrn
  generalize renU (u ++ [x]) = ru at *
  generalize renD (u ++ [x]) (d0) = rd at *
  generalize stateB ru rd (c) = sb at *
  go_wp2_with (go_at_call 75; ((with_reducible refine (HRN.out _ HM4.out.rd HL4.out.rd).mono ?_); rintro e w8 ⟨y1, y2, rfl, po1, po2, hb8, hap8⟩; obtain ⟨m1, m2, m3, rfl⟩ := po1.form'; obtain ⟨m4, m5, m6, rfl⟩ := po2.form'; have PO1 := Lib.hid po1; have PO2 := Lib.hid po2; have PAP := Lib.hid hap8; have HR8 := Lib.hid (HR4.out.below hb8); have HB8 := Lib.hid (Below.step HB4.out hb8); have HS8 := Lib.hid (Nat.le_trans HGE.out (Nat.le_refl _)); clear po1 po2 hap8 hb8))
  have hN := Box3.new 27 w8 (.slice m1 m2 m3) (.slice m4 m5 m6) (.int .i64 (c))
  have n0 := hN.c0; have n1 := hN.c1; have n2 := hN.c2
  have HR9 := Lib.hid (HR8.out.below (Below.alloc1 _ (.cells #[.slice m1 m2 m3, .slice m4 m5 m6, .int .i64 (c)] 27)))
  have Q1 := Lib.hid (PO1.out.below (Below.alloc1 _ (.cells #[.slice m1 m2 m3, .slice m4 m5 m6, .int .i64 (c)] 27)))
  have Q2 := Lib.hid (PO2.out.below (Below.alloc1 _ (.cells #[.slice m1 m2 m3, .slice m4 m5 m6, .int .i64 (c)] 27)))
  have HB9 := Lib.hid (Below.step HB8.out (Below.alloc1 _ (.cells #[.slice m1 m2 m3, .slice m4 m5 m6, .int .i64 (c)] 27)))
  have HN := Lib.hid hN
  clear hN
  generalize (w8.alloc (.cells #[.slice m1 m2 m3, .slice m4 m5 m6, .int .i64 (c)] 27)) = w9 at *
  go_region_with (go_at_call 59; ((refine (HG.out _ _ _ (show Rd (World.drew w9) _ _ from Q1.out.rd) (show Rd (World.drew w9) _ _ from Q2.out.rd)).mono ?_); rintro e w10 ⟨rfl, hb10⟩; have hbx : Below w9.heap.size w9 w10 := ((Below.refl _ w9).drew).trans hb10; have HR10 := Lib.hid (HR9.out.below hbx); have T1 := Lib.hid (Q1.out.below hbx); have T2 := Lib.hid (Q2.out.below hbx); have HB10 := Lib.hid (Below.step HB9.out hbx); have r0 := HR10.out.c0; have r1 := HR10.out.c1; have r2 := HR10.out.c2; have g0 := HR10.out.free 0; have g1 := HR10.out.free 1; have g2 := HR10.out.free 2; have z0 := (HN.out.below hbx).c0; have z1 := (HN.out.below hbx).c1; have z2 := (HN.out.below hbx).c2; clear hb10 hbx))
  all_goals
    have G1 : ∀ k, (Value.slice m1 m2 m3).ownBlock = some k → (some (w.heap.size + 1) : Option Nat) ≠ some k := fun k hk e => by have h5 := (T1.out.lt k hk).1; have := HGE.out; simp at e; omega
    have G2 : ∀ k, (Value.slice m4 m5 m6).ownBlock = some k → (some (w.heap.size + 1) : Option Nat) ≠ some k := fun k hk e => by have h5 := (T2.out.lt k hk).1; have := HGE.out; simp at e; omega
    go_wp2
    exact bodyPost_ret (results_sst _ _ (w.heap.size + 1) _ _ _ sb (((HR10.out.set0 _).set1 _).set2 _) rfl rfl) rfl ⟨_, _, rfl, (T1.out.grown (grownS_trans (grownS_trans grownS_setCell grownS_setCell) grownS_setCell) G1).mono (by have := HGE.out; omega), (T2.out.grown (grownS_trans (grownS_trans grownS_setCell grownS_setCell) grownS_setCell) G2).mono (by have := HGE.out; omega), PAP.out, ((HB10.out.setCell (p := ⟨w.heap.size + 1, 0, none⟩) (Nat.le_succ _) _).setCell (p := ⟨w.heap.size + 1, 1, none⟩) (Nat.le_succ _) _).setCell (p := ⟨w.heap.size + 1, 2, none⟩) (Nat.le_succ _) _⟩
set_option maxHeartbeats 8000000 in
set_option maxRecDepth 100000 in
theorem stStep2 (u d u0 : List Int) (x c : Int) (w : World) (v1 v2 : Value) (h1 : Rd w v1 u) (h2 : Rd w v2 d) (hu : u.length ≤ 6) (hd : d.length ≤ 6) (hx : u = u0 ++ [x]) :
    Calls Try.prog 52 #[.agg #[v1, v2, .int .i64 c], .int .i64 2] w (MadeStO w (renU (u0)) (renD (u0) (d ++ [x])) (c) (stateB (renU (u0)) (renD (u0) (d ++ [x])) (c))) := by
  have hA0 := Box3.new 27 w v1 v2 (.int .i64 c)
  have hA := hA0.below (Below.alloc1 _ (.cells #[.slice none 0 0, .slice none 0 0, .int .i64 0] 27))
  have hR := Box3.new 27 (w.alloc (.cells #[v1, v2, .int .i64 c] 27)) (.slice none 0 0) (.slice none 0 0) (.int .i64 0)
  rw [World.size_alloc] at hR
  have B2 := Below.step (Below.alloc1 w (.cells #[v1, v2, .int .i64 c] 27)) (Below.alloc1 _ (.cells #[.slice none 0 0, .slice none 0 0, .int .i64 0] 27))
  have R1 := h1.below B2; have R2 := h2.below B2
  have k0 := hA.c0; have k1 := hA.c1; have k2 := hA.c2
  have hsz : w.heap.size + 2 ≤ ((w.alloc (.cells #[v1, v2, .int .i64 c] 27)).alloc (.cells #[.slice none 0 0, .slice none 0 0, .int .i64 0] 27)).heap.size := by simp
  have HO1 := Lib.hid (fun W (h : Rd W v1 u) => l1Own_any v1 u W h (by omega))
  have HO2 := Lib.hid (fun W (h : Rd W v2 d) => l1Own_any v2 d W h (by omega))
  have HA := Lib.hid hA; have HR := Lib.hid hR; have HB := Lib.hid B2; have HR1 := Lib.hid R1; have HR2 := Lib.hid R2; have HSZ := Lib.hid hsz
  obtain ⟨nu, hnu⟩ : ∃ n, n = u.length := ⟨_, rfl⟩
  obtain ⟨nd, hnd⟩ : ∃ n, n = d.length := ⟨_, rfl⟩
  have HNU := Lib.hid hnu; have HND := Lib.hid hnd
  rw [← hnu] at hu
  rw [← hnd] at hd
  clear hA0 hA hR B2 R1 R2 h1 h2 hsz hnu hnd
  go_enter Try.func52, Try.ntmps52
  go_wp2_with fail
  generalize hW2 : ((w.alloc (.cells #[v1, v2, .int .i64 c] 27)).alloc (.cells #[.slice none 0 0, .slice none 0 0, .int .i64 0] 27)) = W2 at HA HR HB HR1 HR2 HSZ k0 k1 k2 ⊢
  clear hW2
  go_cut [6, 7] (fun s6 s7 wx => ∃ (a1 : Option Addr) (c1 : Nat) (a2 : Option Addr) (c2 : Nat), s6 = .slice a1 nu c1 ∧ s7 = .slice a2 nd c2 ∧ Hid (Own (w.heap.size + 2) wx (.slice a1 nu c1) u) ∧ Hid (Own (w.heap.size + 2) wx (.slice a2 nd c2) d) ∧ Hid (ApartS (.slice a1 nu c1) (.slice a2 nd c2)) ∧ Hid (Box3 27 wx w.heap.size v1 v2 (.int .i64 c)) ∧ Hid (Box3 27 wx (w.heap.size + 1) (.slice none 0 0) (.slice none 0 0) (.int .i64 0)) ∧ Hid (Below w.heap.size w wx))
  case first =>
    go_region_with (first
      | (go_at_call 74; ((refine (HO1.out _ (show Rd (World.drew W2) v1 u from HR1.out)).mono ?_); rintro e w1 ⟨x1, rfl, ho1, hb1⟩; have hb1' : Below W2.heap.size W2 w1 := ((Below.refl _ W2).drew).trans hb1; have HX1 := Lib.hid hb1'; have HP1 := Lib.hid ho1; have HA1 := Lib.hid (HA.out.below hb1'); have j0 := HA1.out.c0; have j1 := HA1.out.c1; have j2 := HA1.out.c2; obtain ⟨f1, f2, f3, rfl⟩ := ho1.form'; clear ho1 hb1 hb1'))
      | (go_at_call 74; ((refine (HO2.out _ (HR2.out.below HX1.out)).mono ?_); rintro e w2 ⟨x2, rfl, ho2, hb2⟩; have HP2 := Lib.hid ho2; have HP12 := Lib.hid (HP1.out.below hb2); have HX2 := Lib.hid (Below.step HX1.out hb2); obtain ⟨f4, f5, f6, rfl⟩ := ho2.form'; clear ho2 hb2)))
    all_goals
      have e1 := len_of HP1.out; have e2 := len_of HP2.out
      have HAP : Hid (ApartS (.slice f1 f2 f3) (.slice f4 f5 f6)) := (fun k hk hk' => by have h5 := (HP1.out.lt k hk).2; have h6 := (HP2.out.lt k hk').1; omega)
      rw [← HNU.out] at e1; rw [← HND.out] at e2
      subst e1; subst e2
      have HQ1 := Lib.hid (HP12.out.mono HSZ.out)
      have HQ2 := Lib.hid (HP2.out.mono (Nat.le_trans HSZ.out HX1.out.size))
      have HA2 := Lib.hid (HA.out.below HX2.out); have HR2' := Lib.hid (HR.out.below HX2.out); have HB2 := Lib.hid (Below.step HB.out HX2.out)
      go_wp2_with fail
      go_meet
      case rel => exact ⟨f1, f3, f4, f6, rfl, rfl, HQ1, HQ2, HAP, HA2, HR2', HB2⟩
  case rest =>
  obtain ⟨a1, c1, a2, c2, rfl, rfl, HU, HD, HAP, HA3, HR3, HB3⟩ := hcut
  generalize wc = w3 at *
  clear k0 k1 k2 HR1 HR2 HSZ HA HR HB HO1 HO2
  have k2 := HA3.out.c2
  have hBS : w.heap.size + 2 ≤ w3.heap.size := by have := HR3.out.lt; omega
  obtain ⟨m, hm⟩ : ∃ m, m = u0.length := ⟨_, rfl⟩
  have hn1 : nu = m + 1 := by rw [HNU.out, hx, hm]; simp
  have hmi : (nu : Int) - 1 = (m : Int) := by omega
  have hneg : ¬ ((m : Int) < 0) := by omega
  obtain ⟨g2, cc2, hv2⟩ := own_at2 HU.out (by rw [hx]; simp)
  simp only [Value.slice.injEq] at hv2
  obtain ⟨rfl, -, rfl⟩ := hv2
  have hcx := HU.out.cellAt m (by rw [hx, hm]; simp)
  rw [show u.getD m 0 = x by rw [hx, hm]; simp [List.getD]] at hcx
  obtain ⟨_, _, hfv, hcap1, hcap2⟩ := HU.out.form
  simp only [Value.slice.injEq] at hfv
  obtain ⟨-, -, rfl⟩ := hfv
  rw [← HNU.out] at hcap1
  unfold maxLen at hcap2
  have HCUT := Lib.hid (HU.out.cut m (by omega))
  rw [show u.take m = u0 by rw [hx, hm]; simp] at HCUT
  have HX := Lib.hid hx; have HM0 := Lib.hid hm
  have hm5 : m ≤ 5 := by omega
  have hlt1 : (m : Int) < (nu : Int) := by omega
  have hlt2 : m < nu := by omega
  have hlt3 : m ≤ c1 := by omega
  clear hx hm hn1
  go_wp2_with (first
    | (at_builtin; refine wp_appendW _ rfl (.tmp 122) (.tmp 127) rfl (w.heap.size + 2) w3.heap.size _ d x rfl rfl (by rw [cell_of_row _ _ _ _ _ _ (heap_alloc_new w3 _)]; rfl) (HD.out.below (Below.alloc1 _ _)) (by have := HND.out; omega) (by simp; omega) ?_; intro v4 w4 ho4 hg4 hb4 hw4; have HM4 := Lib.hid ho4; have HL4 := Lib.hid ((HCUT.out.below (Below.alloc1 w3 (.cells #[.int .i64 x] 3))).grown hg4 (fun q hq e => HAP.out q hq e)); have HR4 := Lib.hid (((Box3.below HR3.out (Below.alloc1 w3 (.cells #[.int .i64 x] 3)))).under hb4 (by omega)); have HB4 := Lib.hid ((Below.step HB3.out (Below.alloc1 w3 (.cells #[.int .i64 x] 3))).trans (hb4.mono (by omega))); obtain ⟨a4, n4, c4, rfl⟩ := ho4.form'; have HGE : Hid (w.heap.size + 2 ≤ w4.heap.size) := (by show _ ≤ _; have := HR4.out.lt; omega); clear ho4 hg4 hb4 hw4)
    | fail)
  have hrn := fun W (q1 : Rd W (.slice (some ⟨g2, 0, none⟩) m c1) (u0)) (q2 : Rd W (.slice a4 n4 c4) (d ++ [x])) => stRename_full (.slice (some ⟨g2, 0, none⟩) m c1) (.slice a4 n4 c4) (u0) (d ++ [x]) W q1 q2 (by have := HM0.out; omega) (by have := HND.out; simp; omega)
  have HRN := Lib.hid hrn
  have HG := Lib.hid (fun W x1 x2 (q1 : Rd W x1 (renU (u0))) (q2 : Rd W x2 (renD (u0) (d ++ [x]))) => stGood_any x1 x2 (renU (u0)) (renD (u0) (d ++ [x])) (c) W q1 q2)
  clear hrn
  generalize renU (u0) = ru at *
  generalize renD (u0) (d ++ [x]) = rd at *
  generalize stateB ru rd (c) = sb at *
  go_wp2_with (go_at_call 75; ((with_reducible refine (HRN.out _ HL4.out.rd HM4.out.rd).mono ?_); rintro e w8 ⟨y1, y2, rfl, po1, po2, hb8, hap8⟩; obtain ⟨m1, m2, m3, rfl⟩ := po1.form'; obtain ⟨m4, m5, m6, rfl⟩ := po2.form'; have PO1 := Lib.hid po1; have PO2 := Lib.hid po2; have PAP := Lib.hid hap8; have HR8 := Lib.hid (HR4.out.below hb8); have HB8 := Lib.hid (Below.step HB4.out hb8); have HS8 := Lib.hid (Nat.le_trans HGE.out (Nat.le_refl _)); clear po1 po2 hap8 hb8))
  have hN := Box3.new 27 w8 (.slice m1 m2 m3) (.slice m4 m5 m6) (.int .i64 (c))
  have n0 := hN.c0; have n1 := hN.c1; have n2 := hN.c2
  have HR9 := Lib.hid (HR8.out.below (Below.alloc1 _ (.cells #[.slice m1 m2 m3, .slice m4 m5 m6, .int .i64 (c)] 27)))
  have Q1 := Lib.hid (PO1.out.below (Below.alloc1 _ (.cells #[.slice m1 m2 m3, .slice m4 m5 m6, .int .i64 (c)] 27)))
  have Q2 := Lib.hid (PO2.out.below (Below.alloc1 _ (.cells #[.slice m1 m2 m3, .slice m4 m5 m6, .int .i64 (c)] 27)))
  have HB9 := Lib.hid (Below.step HB8.out (Below.alloc1 _ (.cells #[.slice m1 m2 m3, .slice m4 m5 m6, .int .i64 (c)] 27)))
  have HN := Lib.hid hN
  clear hN
  generalize (w8.alloc (.cells #[.slice m1 m2 m3, .slice m4 m5 m6, .int .i64 (c)] 27)) = w9 at *
  go_region_with (go_at_call 59; ((refine (HG.out _ _ _ (show Rd (World.drew w9) _ _ from Q1.out.rd) (show Rd (World.drew w9) _ _ from Q2.out.rd)).mono ?_); rintro e w10 ⟨rfl, hb10⟩; have hbx : Below w9.heap.size w9 w10 := ((Below.refl _ w9).drew).trans hb10; have HR10 := Lib.hid (HR9.out.below hbx); have T1 := Lib.hid (Q1.out.below hbx); have T2 := Lib.hid (Q2.out.below hbx); have HB10 := Lib.hid (Below.step HB9.out hbx); have r0 := HR10.out.c0; have r1 := HR10.out.c1; have r2 := HR10.out.c2; have g0 := HR10.out.free 0; have g1 := HR10.out.free 1; have g2 := HR10.out.free 2; have z0 := (HN.out.below hbx).c0; have z1 := (HN.out.below hbx).c1; have z2 := (HN.out.below hbx).c2; clear hb10 hbx))
  all_goals
    have G1 : ∀ k, (Value.slice m1 m2 m3).ownBlock = some k → (some (w.heap.size + 1) : Option Nat) ≠ some k := fun k hk e => by have h5 := (T1.out.lt k hk).1; have := HGE.out; simp at e; omega
    have G2 : ∀ k, (Value.slice m4 m5 m6).ownBlock = some k → (some (w.heap.size + 1) : Option Nat) ≠ some k := fun k hk e => by have h5 := (T2.out.lt k hk).1; have := HGE.out; simp at e; omega
    go_wp2
    exact bodyPost_ret (results_sst _ _ (w.heap.size + 1) _ _ _ sb (((HR10.out.set0 _).set1 _).set2 _) rfl rfl) rfl ⟨_, _, rfl, (T1.out.grown (grownS_trans (grownS_trans grownS_setCell grownS_setCell) grownS_setCell) G1).mono (by have := HGE.out; omega), (T2.out.grown (grownS_trans (grownS_trans grownS_setCell grownS_setCell) grownS_setCell) G2).mono (by have := HGE.out; omega), PAP.out, ((HB10.out.setCell (p := ⟨w.heap.size + 1, 0, none⟩) (Nat.le_succ _) _).setCell (p := ⟨w.heap.size + 1, 1, none⟩) (Nat.le_succ _) _).setCell (p := ⟨w.heap.size + 1, 2, none⟩) (Nat.le_succ _) _⟩

end Go.Proofs.Ytllhdmpnjcemkac
