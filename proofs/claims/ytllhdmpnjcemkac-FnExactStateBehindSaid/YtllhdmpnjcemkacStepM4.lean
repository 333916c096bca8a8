/- A step in the model: k is 3. -/
import Derived.Test.YtllhdmpnjcemkacStepG
import Derived.Test.YtllhdmpnjcemkacShift
import Derived.Test.YtllhdmpnjcemkacCrosses
import Derived.Test.YtllhdmpnjcemkacStepF
import Derived.Deep.QuietTactic
import Derived.BigQuiet
namespace Go.Proofs.Ytllhdmpnjcemkac
open Go.RowKit
set_option linter.unusedSimpArgs false
set_option linter.unusedVariables false

def clC (x y c : Int) : Int := if x = y then c + 1 else c
/-- one list renamed in place: what holds before the number q -/
def RnIn (B b : Nat) (w0 w : World) (g1 m1 c1 g2 m2 c2 : Nat) (l1 l2 : List Int) : Prop :=
  Own B w (.slice (some ⟨g1, 0, none⟩) m1 c1) l1 ∧ Own B w (.slice (some ⟨g2, 0, none⟩) m2 c2) l2 ∧ Box3 27 w (b + 1) (.slice none 0 0) (.slice none 0 0) (.int .i64 0) ∧ Below b w0 w
theorem RnIn.swap {B b : Nat} {w0 w : World} {g1 m1 c1 g2 m2 c2 : Nat} {l1 l2 : List Int} (h : RnIn B b w0 w g1 m1 c1 g2 m2 c2 l1 l2) : RnIn B b w0 w g2 m2 c2 g1 m1 c1 l2 l1 := ⟨h.2.1, h.1, h.2.2.1, h.2.2.2⟩
theorem RnIn.drewN {B b : Nat} {w0 w : World} {g1 m1 c1 g2 m2 c2 : Nat} {l1 l2 : List Int} (h : RnIn B b w0 w g1 m1 c1 g2 m2 c2 l1 l2) (q : Nat) : RnIn B b w0 (w.drewN q) g1 m1 c1 g2 m2 c2 l1 l2 := ⟨h.1, h.2.1, h.2.2.1, Below.drewN h.2.2.2 q⟩
theorem RnIn.set {B b : Nat} {w0 w : World} {g1 m1 c1 g2 m2 c2 : Nat} {l1 l2 : List Int} (h : RnIn B b w0 w g1 m1 c1 g2 m2 c2 l1 l2) (hne : g1 ≠ g2) (hB : b + 2 ≤ B) (q : Nat) (z : Int) : RnIn B b w0 (w.setCell ⟨g1, q, none⟩ (.int .i64 z)) g1 m1 c1 g2 m2 c2 (l1.set q z) l2 := by
  have hg : B ≤ g1 := (h.1.lt g1 rfl).1
  refine ⟨h.1.stored q z, h.2.1.grown grownS_setCell (fun k hk e => ?_), h.2.2.1.grown grownS_setCell (by simp; omega), h.2.2.2.setCell (p := ⟨g1, q, none⟩) (show b ≤ g1 by omega) _⟩
  simp [Value.ownBlock] at hk e
  omega

set_option maxHeartbeats 16000000 in
set_option maxRecDepth 100000 in
theorem stStep3 (u d u0 d0 : List Int) (x y c : Int) (w : World) (v1 v2 : Value) (h1 : Rd w v1 u) (h2 : Rd w v2 d) (hu : u.length ≤ 6) (hd : d.length ≤ 6) (hc0 : 0 ≤ c) (hc6 : c ≤ 6) (hx : u = u0 ++ [x]) (hy : d = d0 ++ [y]) :
    Calls Try.prog 52 #[.agg #[v1, v2, .int .i64 c], .int .i64 3] w (MadeStO w (renU (u0.map (mgI x y))) (renD (u0.map (mgI x y)) (d0.map (mgI x y))) (clC x y c) (stateB (renU (u0.map (mgI x y))) (renD (u0.map (mgI x y)) (d0.map (mgI x y))) (clC x y c))) := by
  have hA0 := Box3.new 27 w v1 v2 (.int .i64 c)
  have hA := hA0.below (Below.alloc1 _ (.cells #[.slice none 0 0, .slice none 0 0, .int .i64 0] 27))
  have hR := Box3.new 27 (w.alloc (.cells #[v1, v2, .int .i64 c] 27)) (.slice none 0 0) (.slice none 0 0) (.int .i64 0)
  rw [World.size_alloc] at hR
  have B2 := Below.step (Below.alloc1 w (.cells #[v1, v2, .int .i64 c] 27)) (Below.alloc1 _ (.cells #[.slice none 0 0, .slice none 0 0, .int .i64 0] 27))
  have R1 := h1.below B2; have R2 := h2.below B2
  have k0 := hA.c0; have k1 := hA.c1; have k2 := hA.c2
  have hsz : w.heap.size + 2 ≤ ((w.alloc (.cells #[v1, v2, .int .i64 c] 27)).alloc (.cells #[.slice none 0 0, .slice none 0 0, .int .i64 0] 27)).heap.size := by simp
  have HO1 := Lib.hid (fun W (h : Rd W v1 u) => l1Own_any v1 u W h (by omega))
  have HO2 := Lib.hid (fun W (h : Rd W v2 d) => l1Own_any v2 d W h (by omega))
  have HA := Lib.hid hA; have HR := Lib.hid hR; have HB := Lib.hid B2; have HR1 := Lib.hid R1; have HR2 := Lib.hid R2; have HSZ := Lib.hid hsz
  obtain ⟨nu, hnu⟩ : ∃ n, n = u.length := ⟨_, rfl⟩
  obtain ⟨nd, hnd⟩ : ∃ n, n = d.length := ⟨_, rfl⟩
  have HNU := Lib.hid hnu; have HND := Lib.hid hnd
  rw [← hnu] at hu
  rw [← hnd] at hd
  clear hA0 hA hR B2 R1 R2 h1 h2 hsz hnu hnd
  go_enter Try.func52, Try.ntmps52
  go_wp2_with fail
  generalize hW2 : ((w.alloc (.cells #[v1, v2, .int .i64 c] 27)).alloc (.cells #[.slice none 0 0, .slice none 0 0, .int .i64 0] 27)) = W2 at HA HR HB HR1 HR2 HSZ k0 k1 k2 ⊢
  clear hW2
  go_cut [6, 7] (fun s6 s7 wx => ∃ (a1 : Option Addr) (c1 : Nat) (a2 : Option Addr) (c2 : Nat), s6 = .slice a1 nu c1 ∧ s7 = .slice a2 nd c2 ∧ Hid (Own (w.heap.size + 2) wx (.slice a1 nu c1) u) ∧ Hid (Own (w.heap.size + 2) wx (.slice a2 nd c2) d) ∧ Hid (ApartS (.slice a1 nu c1) (.slice a2 nd c2)) ∧ Hid (Box3 27 wx w.heap.size v1 v2 (.int .i64 c)) ∧ Hid (Box3 27 wx (w.heap.size + 1) (.slice none 0 0) (.slice none 0 0) (.int .i64 0)) ∧ Hid (Below w.heap.size w wx))
  case first =>
    go_region_with (first
      | (go_at_call 74; ((refine (HO1.out _ (show Rd (World.drew W2) v1 u from HR1.out)).mono ?_); rintro e w1 ⟨x1, rfl, ho1, hb1⟩; have hb1' : Below W2.heap.size W2 w1 := ((Below.refl _ W2).drew).trans hb1; have HX1 := Lib.hid hb1'; have HP1 := Lib.hid ho1; have HA1 := Lib.hid (HA.out.below hb1'); have j0 := HA1.out.c0; have j1 := HA1.out.c1; have j2 := HA1.out.c2; obtain ⟨f1, f2, f3, rfl⟩ := ho1.form'; clear ho1 hb1 hb1'))
      | (go_at_call 74; ((refine (HO2.out _ (HR2.out.below HX1.out)).mono ?_); rintro e w2 ⟨x2, rfl, ho2, hb2⟩; have HP2 := Lib.hid ho2; have HP12 := Lib.hid (HP1.out.below hb2); have HX2 := Lib.hid (Below.step HX1.out hb2); obtain ⟨f4, f5, f6, rfl⟩ := ho2.form'; clear ho2 hb2)))
    all_goals
      have e1 := len_of HP1.out; have e2 := len_of HP2.out
      have HAP : Hid (ApartS (.slice f1 f2 f3) (.slice f4 f5 f6)) := (fun k hk hk' => by have h5 := (HP1.out.lt k hk).2; have h6 := (HP2.out.lt k hk').1; omega)
      rw [← HNU.out] at e1; rw [← HND.out] at e2
      subst e1; subst e2
      have HQ1 := Lib.hid (HP12.out.mono HSZ.out)
      have HQ2 := Lib.hid (HP2.out.mono (Nat.le_trans HSZ.out HX1.out.size))
      have HA2 := Lib.hid (HA.out.below HX2.out); have HR2' := Lib.hid (HR.out.below HX2.out); have HB2 := Lib.hid (Below.step HB.out HX2.out)
      go_wp2_with fail
      go_meet
      case rel => exact ⟨f1, f3, f4, f6, rfl, rfl, HQ1, HQ2, HAP, HA2, HR2', HB2⟩
  case rest =>
  obtain ⟨a1, c1, a2, c2, rfl, rfl, HU, HD, HAP, HA3, HR3, HB3⟩ := hcut
  generalize wc = w3 at *
  clear k0 k1 k2 HR1 HR2 HSZ HA HR HB HO1 HO2
  have k2 := HA3.out.c2
  obtain ⟨mu, hmmu⟩ : ∃ m, m = u0.length := ⟨_, rfl⟩
  have hnmu : nu = mu + 1 := by rw [HNU.out, hx, hmmu]; simp
  have hmimu : (nu : Int) - 1 = (mu : Int) := by omega
  have hnegmu : ¬ ((mu : Int) < 0) := by omega
  obtain ⟨gu, ccmu, hvmu⟩ := own_at2 HU.out (by rw [hx]; simp)
  simp only [Value.slice.injEq] at hvmu
  obtain ⟨rfl, -, rfl⟩ := hvmu
  have hcxmu := HU.out.cellAt mu (by rw [hx, hmmu]; simp)
  rw [show u.getD mu 0 = x by rw [hx, hmmu]; simp [List.getD]] at hcxmu
  obtain ⟨_, _, hfvmu, hcap1mu, hcap2mu⟩ := HU.out.form
  simp only [Value.slice.injEq] at hfvmu
  obtain ⟨-, -, rfl⟩ := hfvmu
  rw [← HNU.out] at hcap1mu
  unfold maxLen at hcap2mu
  have HCUTmu := Lib.hid (HU.out.cut mu (by omega))
  rw [show u.take mu = u0 by rw [hx, hmmu]; simp] at HCUTmu
  have HMmu := Lib.hid hmmu
  have hm5mu : mu ≤ 5 := by omega
  have hlt1mu : (mu : Int) < (nu : Int) := by omega
  have hlt2mu : mu < nu := by omega
  have hlt3mu : mu ≤ c1 := by omega
  obtain ⟨md, hmmd⟩ : ∃ m, m = d0.length := ⟨_, rfl⟩
  have hnmd : nd = md + 1 := by rw [HND.out, hy, hmmd]; simp
  have hmimd : (nd : Int) - 1 = (md : Int) := by omega
  have hnegmd : ¬ ((md : Int) < 0) := by omega
  obtain ⟨gd, ccmd, hvmd⟩ := own_at2 HD.out (by rw [hy]; simp)
  simp only [Value.slice.injEq] at hvmd
  obtain ⟨rfl, -, rfl⟩ := hvmd
  have hcxmd := HD.out.cellAt md (by rw [hy, hmmd]; simp)
  rw [show d.getD md 0 = y by rw [hy, hmmd]; simp [List.getD]] at hcxmd
  obtain ⟨_, _, hfvmd, hcap1md, hcap2md⟩ := HD.out.form
  simp only [Value.slice.injEq] at hfvmd
  obtain ⟨-, -, rfl⟩ := hfvmd
  rw [← HND.out] at hcap1md
  unfold maxLen at hcap2md
  have HCUTmd := Lib.hid (HD.out.cut md (by omega))
  rw [show d.take md = d0 by rw [hy, hmmd]; simp] at HCUTmd
  have HMmd := Lib.hid hmmd
  have hm5md : md ≤ 5 := by omega
  have hlt1md : (md : Int) < (nd : Int) := by omega
  have hlt2md : md < nd := by omega
  have hlt3md : md ≤ c2 := by omega
  have hne : gu ≠ gd := fun e => HAP.out gu rfl (by rw [e]; rfl)
  have HNE := Lib.hid hne
  have HIN : Hid (RnIn (w.heap.size + 2) w.heap.size w w3 gu mu c1 gd md c2 u0 d0) := ⟨HCUTmu.out, HCUTmd.out, HR3.out, HB3.out⟩
  have k2' := HA3.out.c2
  have HKP1 := Lib.hid (fun k (hk : k < mu) (hne : u0.getD k 0 ≠ y) => rnK_keep y x u0 k (by rw [← HMmu.out]; exact hk) hne)
  have HNX1 := Lib.hid (fun k (hk : k < mu) => rnK_next y x u0 k (by rw [← HMmu.out]; exact hk))
  have HGT1 := Lib.hid (fun k (hk : k < mu) => rnK_get y x u0 k (by rw [← HMmu.out]; exact hk))
  have HLN1 := Lib.hid (fun k => (rnK_length y x u0 k).trans HMmu.out.symm)
  have HFI1 : Hid (rnK y x u0 mu = u0.map (mgI x y)) := by show _ = _; rw [HMmu.out]; exact rnK_all y x u0
  have HKP2 := Lib.hid (fun k (hk : k < md) (hne : d0.getD k 0 ≠ y) => rnK_keep y x d0 k (by rw [← HMmd.out]; exact hk) hne)
  have HNX2 := Lib.hid (fun k (hk : k < md) => rnK_next y x d0 k (by rw [← HMmd.out]; exact hk))
  have HGT2 := Lib.hid (fun k (hk : k < md) => rnK_get y x d0 k (by rw [← HMmd.out]; exact hk))
  have HLN2 := Lib.hid (fun k => (rnK_length y x d0 k).trans HMmd.out.symm)
  have HFI2 : Hid (rnK y x d0 md = d0.map (mgI x y)) := by show _ = _; rw [HMmd.out]; exact rnK_all y x d0
  have HZ1 := Lib.hid (rnK_zero y x u0); have HZ2 := Lib.hid (rnK_zero y x d0)
  have HL1 : Hid ((u0.map (mgI x y)).length ≤ 1000) := by show _ ≤ _; rw [List.length_map, ← HMmu.out]; omega
  have HL2 : Hid ((d0.map (mgI x y)).length ≤ 1000) := by show _ ≤ _; rw [List.length_map, ← HMmd.out]; omega
  clear hx hy hmmu hmmd hnmu hnmd hne
  clear k2'
  go_wp2
  go_quiet (fail)
  have HIN1 := Lib.hid (HIN.out.drewN nq)
  have HA4 : Hid (Box3 27 (w3.drewN nq) w.heap.size v1 v2 (.int .i64 c)) := HA3.out
  generalize w3.drewN nq = w4 at HIN1 HA4 ⊢
  clear HIN HCUTmu HCUTmd HU HD HR3 HB3 HA3 hcxmu hcxmd k2
  by_cases hxy : x = y
  · have HCL := Lib.hid (show clC x y c = c + 1 from if_pos hxy)
    have hb : (x == y) = true := by simpa using hxy
    have hcw : IntKind.i64.wrap (c + 1) = c + 1 := IntWalk.i64_in _ (by omega)
    clear hxy
    go_wp2
    go_loopw [70] (fun i wr => ∃ q : Nat, q ≤ mu ∧ i = .int .i64 q ∧ Hid (RnIn (w.heap.size + 2) w.heap.size w wr gu mu c1 gd md c2 (rnK y x u0 q) d0)) (fun i _ => mu - (intOf i).toNat)
    case atStart => exact ⟨0, by omega, rfl, by show RnIn _ _ _ _ _ _ _ _ _ _ _ _; rw [HZ1.out]; exact HIN1.out⟩
    case round =>
      clear HIN1
      obtain ⟨q, hq, rfl, HR⟩ := hrel
      generalize wr = wc at *
      by_cases hlt : q < mu
      · have hc := HR.out.1.cellAt q (by rw [HLN1.out]; exact hlt)
        rw [HGT1.out q hlt] at hc
        have hf := HR.out.1.frozenAt q
        have hnx := HNX1.out q hlt
        have hkp := HKP1.out q hlt
        have hst := HR.out.set HNE.out (Nat.le_refl _) q x
        generalize u0.getD q 0 = z at hc hnx hkp
        by_cases hz : z = y
        · have hzy : (z == y) = true := by simpa using hz
          rw [show mgI x y z = x by unfold mgI; rw [if_pos hz]] at hnx
          rw [← hnx] at hst
          have HS2 := Lib.hid hst
          clear hnx hkp hst hz HR
          go_wp2
          go_roundw
          case rel => exact ⟨q + 1, by omega, by go_num, HS2.out⟩
          case measure => simp [intOf]; omega
        · have hzy : (z == y) = false := by rw [beq_eq_false_iff_ne]; exact hz
          have hk2 := hkp hz
          have HR2 := HR.out
          rw [← hk2] at HR2
          have HR3 := Lib.hid HR2
          clear hnx hkp hst hz hk2 HR HR2
          go_wp2
          go_roundw
          case rel => exact ⟨q + 1, by omega, by go_num, HR3.out⟩
          case measure => simp [intOf]; omega
      · obtain rfl : mu = q := by omega
        have HRX := HR.out
        rw [HFI1.out] at HRX
        have HIN2 := Lib.hid HRX
        clear HRX HR hlt hq
        go_wp2
        go_loopw [86] (fun i wr => ∃ q : Nat, q ≤ md ∧ i = .int .i64 q ∧ Hid (RnIn (w.heap.size + 2) w.heap.size w wr gu mu c1 gd md c2 (u0.map (mgI x y)) (rnK y x d0 q))) (fun i _ => md - (intOf i).toNat)
        case atStart => exact ⟨0, by omega, rfl, by show RnIn _ _ _ _ _ _ _ _ _ _ _ _; rw [HZ2.out]; exact HIN2.out⟩
        case round =>
          clear HIN2
          obtain ⟨q, hq, rfl, HR⟩ := hrel
          generalize wr = wc at *
          by_cases hlt : q < md
          · have hc := HR.out.2.1.cellAt q (by rw [HLN2.out]; exact hlt)
            rw [HGT2.out q hlt] at hc
            have hf := HR.out.2.1.frozenAt q
            have hnx := HNX2.out q hlt
            have hkp := HKP2.out q hlt
            have hst := (HR.out.swap.set (fun e => HNE.out e.symm) (Nat.le_refl _) q x).swap
            generalize d0.getD q 0 = z at hc hnx hkp
            by_cases hz : z = y
            · have hzy : (z == y) = true := by simpa using hz
              rw [show mgI x y z = x by unfold mgI; rw [if_pos hz]] at hnx
              rw [← hnx] at hst
              have HS2 := Lib.hid hst
              clear hnx hkp hst hz HR
              go_wp2
              go_roundw
              case rel => exact ⟨q + 1, by omega, by go_num, HS2.out⟩
              case measure => simp [intOf]; omega
            · have hzy : (z == y) = false := by rw [beq_eq_false_iff_ne]; exact hz
              have hk2 := hkp hz
              have HR2 := HR.out
              rw [← hk2] at HR2
              have HR3 := Lib.hid HR2
              clear hnx hkp hst hz hk2 HR HR2
              go_wp2
              go_roundw
              case rel => exact ⟨q + 1, by omega, by go_num, HR3.out⟩
              case measure => simp [intOf]; omega
          · obtain rfl : md = q := by omega
            have HRX := HR.out
            rw [HFI2.out] at HRX
            have HIN3 := Lib.hid HRX
            clear HRX HR hlt hq
            have HUf := Lib.hid HIN3.out.1; have HDf := Lib.hid HIN3.out.2.1; have HRf := Lib.hid HIN3.out.2.2.1; have HBf := Lib.hid HIN3.out.2.2.2
            have HGE : Hid (w.heap.size + 2 ≤ wc.heap.size) := by show _ ≤ _; have := HRf.out.lt; omega
            clear HIN3
            have hrn := fun W (q1 : Rd W (.slice (some ⟨gu, 0, none⟩) mu c1) (u0.map (mgI x y))) (q2 : Rd W (.slice (some ⟨gd, 0, none⟩) md c2) (d0.map (mgI x y))) => stRename_full (.slice (some ⟨gu, 0, none⟩) mu c1) (.slice (some ⟨gd, 0, none⟩) md c2) (u0.map (mgI x y)) (d0.map (mgI x y)) W q1 q2 HL1.out HL2.out
            have HRN := Lib.hid hrn
            have HG := Lib.hid (fun W x1 x2 (q1 : Rd W x1 (renU (u0.map (mgI x y)))) (q2 : Rd W x2 (renD (u0.map (mgI x y)) (d0.map (mgI x y)))) => stGood_any x1 x2 (renU (u0.map (mgI x y))) (renD (u0.map (mgI x y)) (d0.map (mgI x y))) (c + 1) W q1 q2)
            clear hrn
            generalize renU (u0.map (mgI x y)) = ru at *
            generalize renD (u0.map (mgI x y)) (d0.map (mgI x y)) = rd at *
            generalize hsb : stateB ru rd (c + 1) = sb at HG; have HSB := Lib.hid hsb; clear hsb
            go_wp2_with (go_at_call 75; ((with_reducible refine (HRN.out _ HUf.out.rd HDf.out.rd).mono ?_); rintro e w8 ⟨y1, y2, rfl, po1, po2, hb8, hap8⟩; obtain ⟨m1, m2, m3, rfl⟩ := po1.form'; obtain ⟨m4, m5, m6, rfl⟩ := po2.form'; have PO1 := Lib.hid po1; have PO2 := Lib.hid po2; have PAP := Lib.hid hap8; have HR8 := Lib.hid (HRf.out.below hb8); have HB8 := Lib.hid (Below.step HBf.out hb8); have HS8 := Lib.hid (Nat.le_trans HGE.out (Nat.le_refl _)); clear po1 po2 hap8 hb8))
            have hN := Box3.new 27 w8 (.slice m1 m2 m3) (.slice m4 m5 m6) (.int .i64 (c + 1))
            have n0 := hN.c0; have n1 := hN.c1; have n2 := hN.c2
            have HR9 := Lib.hid (HR8.out.below (Below.alloc1 _ (.cells #[.slice m1 m2 m3, .slice m4 m5 m6, .int .i64 (c + 1)] 27)))
            have Q1 := Lib.hid (PO1.out.below (Below.alloc1 _ (.cells #[.slice m1 m2 m3, .slice m4 m5 m6, .int .i64 (c + 1)] 27)))
            have Q2 := Lib.hid (PO2.out.below (Below.alloc1 _ (.cells #[.slice m1 m2 m3, .slice m4 m5 m6, .int .i64 (c + 1)] 27)))
            have HB9 := Lib.hid (Below.step HB8.out (Below.alloc1 _ (.cells #[.slice m1 m2 m3, .slice m4 m5 m6, .int .i64 (c + 1)] 27)))
            have HN := Lib.hid hN
            clear hN
            generalize (w8.alloc (.cells #[.slice m1 m2 m3, .slice m4 m5 m6, .int .i64 (c + 1)] 27)) = w9 at *
            go_region_with (go_at_call 59; ((refine (HG.out _ _ _ (show Rd (World.drew w9) _ _ from Q1.out.rd) (show Rd (World.drew w9) _ _ from Q2.out.rd)).mono ?_); rintro e w10 ⟨rfl, hb10⟩; have hbx : Below w9.heap.size w9 w10 := ((Below.refl _ w9).drew).trans hb10; have HR10 := Lib.hid (HR9.out.below hbx); have T1 := Lib.hid (Q1.out.below hbx); have T2 := Lib.hid (Q2.out.below hbx); have HB10 := Lib.hid (Below.step HB9.out hbx); have r0 := HR10.out.c0; have r1 := HR10.out.c1; have r2 := HR10.out.c2; have g0 := HR10.out.free 0; have g1 := HR10.out.free 1; have g2 := HR10.out.free 2; have z0 := (HN.out.below hbx).c0; have z1 := (HN.out.below hbx).c1; have z2 := (HN.out.below hbx).c2; clear hb10 hbx))
            all_goals
              have G1 : ∀ k, (Value.slice m1 m2 m3).ownBlock = some k → (some (w.heap.size + 1) : Option Nat) ≠ some k := fun k hk e => by have h5 := (T1.out.lt k hk).1; have := HGE.out; simp at e; omega
              have G2 : ∀ k, (Value.slice m4 m5 m6).ownBlock = some k → (some (w.heap.size + 1) : Option Nat) ≠ some k := fun k hk e => by have h5 := (T2.out.lt k hk).1; have := HGE.out; simp at e; omega
              go_wp2
              exact bodyPost_ret (results_sst _ _ (w.heap.size + 1) _ _ _ sb (((HR10.out.set0 _).set1 _).set2 _) rfl rfl) rfl ⟨_, _, by rw [HCL.out, HSB.out], (T1.out.grown (grownS_trans (grownS_trans grownS_setCell grownS_setCell) grownS_setCell) G1).mono (by have := HGE.out; omega), (T2.out.grown (grownS_trans (grownS_trans grownS_setCell grownS_setCell) grownS_setCell) G2).mono (by have := HGE.out; omega), PAP.out, ((HB10.out.setCell (p := ⟨w.heap.size + 1, 0, none⟩) (Nat.le_succ _) _).setCell (p := ⟨w.heap.size + 1, 1, none⟩) (Nat.le_succ _) _).setCell (p := ⟨w.heap.size + 1, 2, none⟩) (Nat.le_succ _) _⟩
  · have HCL := Lib.hid (show clC x y c = c from if_neg hxy)
    have hb : (x == y) = false := by rw [beq_eq_false_iff_ne]; exact hxy
    clear hxy
    go_wp2
    go_loopw [70] (fun i wr => ∃ q : Nat, q ≤ mu ∧ i = .int .i64 q ∧ Hid (RnIn (w.heap.size + 2) w.heap.size w wr gu mu c1 gd md c2 (rnK y x u0 q) d0)) (fun i _ => mu - (intOf i).toNat)
    case atStart => exact ⟨0, by omega, rfl, by show RnIn _ _ _ _ _ _ _ _ _ _ _ _; rw [HZ1.out]; exact HIN1.out⟩
    case round =>
      clear HIN1
      obtain ⟨q, hq, rfl, HR⟩ := hrel
      generalize wr = wc at *
      by_cases hlt : q < mu
      · have hc := HR.out.1.cellAt q (by rw [HLN1.out]; exact hlt)
        rw [HGT1.out q hlt] at hc
        have hf := HR.out.1.frozenAt q
        have hnx := HNX1.out q hlt
        have hkp := HKP1.out q hlt
        have hst := HR.out.set HNE.out (Nat.le_refl _) q x
        generalize u0.getD q 0 = z at hc hnx hkp
        by_cases hz : z = y
        · have hzy : (z == y) = true := by simpa using hz
          rw [show mgI x y z = x by unfold mgI; rw [if_pos hz]] at hnx
          rw [← hnx] at hst
          have HS2 := Lib.hid hst
          clear hnx hkp hst hz HR
          go_wp2
          go_roundw
          case rel => exact ⟨q + 1, by omega, by go_num, HS2.out⟩
          case measure => simp [intOf]; omega
        · have hzy : (z == y) = false := by rw [beq_eq_false_iff_ne]; exact hz
          have hk2 := hkp hz
          have HR2 := HR.out
          rw [← hk2] at HR2
          have HR3 := Lib.hid HR2
          clear hnx hkp hst hz hk2 HR HR2
          go_wp2
          go_roundw
          case rel => exact ⟨q + 1, by omega, by go_num, HR3.out⟩
          case measure => simp [intOf]; omega
      · obtain rfl : mu = q := by omega
        have HRX := HR.out
        rw [HFI1.out] at HRX
        have HIN2 := Lib.hid HRX
        clear HRX HR hlt hq
        go_wp2
        go_loopw [86] (fun i wr => ∃ q : Nat, q ≤ md ∧ i = .int .i64 q ∧ Hid (RnIn (w.heap.size + 2) w.heap.size w wr gu mu c1 gd md c2 (u0.map (mgI x y)) (rnK y x d0 q))) (fun i _ => md - (intOf i).toNat)
        case atStart => exact ⟨0, by omega, rfl, by show RnIn _ _ _ _ _ _ _ _ _ _ _ _; rw [HZ2.out]; exact HIN2.out⟩
        case round =>
          clear HIN2
          obtain ⟨q, hq, rfl, HR⟩ := hrel
          generalize wr = wc at *
          by_cases hlt : q < md
          · have hc := HR.out.2.1.cellAt q (by rw [HLN2.out]; exact hlt)
            rw [HGT2.out q hlt] at hc
            have hf := HR.out.2.1.frozenAt q
            have hnx := HNX2.out q hlt
            have hkp := HKP2.out q hlt
            have hst := (HR.out.swap.set (fun e => HNE.out e.symm) (Nat.le_refl _) q x).swap
            generalize d0.getD q 0 = z at hc hnx hkp
            by_cases hz : z = y
            · have hzy : (z == y) = true := by simpa using hz
              rw [show mgI x y z = x by unfold mgI; rw [if_pos hz]] at hnx
              rw [← hnx] at hst
              have HS2 := Lib.hid hst
              clear hnx hkp hst hz HR
              go_wp2
              go_roundw
              case rel => exact ⟨q + 1, by omega, by go_num, HS2.out⟩
              case measure => simp [intOf]; omega
            · have hzy : (z == y) = false := by rw [beq_eq_false_iff_ne]; exact hz
              have hk2 := hkp hz
              have HR2 := HR.out
              rw [← hk2] at HR2
              have HR3 := Lib.hid HR2
              clear hnx hkp hst hz hk2 HR HR2
              go_wp2
              go_roundw
              case rel => exact ⟨q + 1, by omega, by go_num, HR3.out⟩
              case measure => simp [intOf]; omega
          · obtain rfl : md = q := by omega
            have HRX := HR.out
            rw [HFI2.out] at HRX
            have HIN3 := Lib.hid HRX
            clear HRX HR hlt hq
            have HUf := Lib.hid HIN3.out.1; have HDf := Lib.hid HIN3.out.2.1; have HRf := Lib.hid HIN3.out.2.2.1; have HBf := Lib.hid HIN3.out.2.2.2
            have HGE : Hid (w.heap.size + 2 ≤ wc.heap.size) := by show _ ≤ _; have := HRf.out.lt; omega
            clear HIN3
            have hrn := fun W (q1 : Rd W (.slice (some ⟨gu, 0, none⟩) mu c1) (u0.map (mgI x y))) (q2 : Rd W (.slice (some ⟨gd, 0, none⟩) md c2) (d0.map (mgI x y))) => stRename_full (.slice (some ⟨gu, 0, none⟩) mu c1) (.slice (some ⟨gd, 0, none⟩) md c2) (u0.map (mgI x y)) (d0.map (mgI x y)) W q1 q2 HL1.out HL2.out
            have HRN := Lib.hid hrn
            have HG := Lib.hid (fun W x1 x2 (q1 : Rd W x1 (renU (u0.map (mgI x y)))) (q2 : Rd W x2 (renD (u0.map (mgI x y)) (d0.map (mgI x y)))) => stGood_any x1 x2 (renU (u0.map (mgI x y))) (renD (u0.map (mgI x y)) (d0.map (mgI x y))) (c) W q1 q2)
            clear hrn
            generalize renU (u0.map (mgI x y)) = ru at *
            generalize renD (u0.map (mgI x y)) (d0.map (mgI x y)) = rd at *
            generalize hsb : stateB ru rd (c) = sb at HG; have HSB := Lib.hid hsb; clear hsb
            go_wp2_with (go_at_call 75; ((with_reducible refine (HRN.out _ HUf.out.rd HDf.out.rd).mono ?_); rintro e w8 ⟨y1, y2, rfl, po1, po2, hb8, hap8⟩; obtain ⟨m1, m2, m3, rfl⟩ := po1.form'; obtain ⟨m4, m5, m6, rfl⟩ := po2.form'; have PO1 := Lib.hid po1; have PO2 := Lib.hid po2; have PAP := Lib.hid hap8; have HR8 := Lib.hid (HRf.out.below hb8); have HB8 := Lib.hid (Below.step HBf.out hb8); have HS8 := Lib.hid (Nat.le_trans HGE.out (Nat.le_refl _)); clear po1 po2 hap8 hb8))
            have hN := Box3.new 27 w8 (.slice m1 m2 m3) (.slice m4 m5 m6) (.int .i64 (c))
            have n0 := hN.c0; have n1 := hN.c1; have n2 := hN.c2
            have HR9 := Lib.hid (HR8.out.below (Below.alloc1 _ (.cells #[.slice m1 m2 m3, .slice m4 m5 m6, .int .i64 (c)] 27)))
            have Q1 := Lib.hid (PO1.out.below (Below.alloc1 _ (.cells #[.slice m1 m2 m3, .slice m4 m5 m6, .int .i64 (c)] 27)))
            have Q2 := Lib.hid (PO2.out.below (Below.alloc1 _ (.cells #[.slice m1 m2 m3, .slice m4 m5 m6, .int .i64 (c)] 27)))
            have HB9 := Lib.hid (Below.step HB8.out (Below.alloc1 _ (.cells #[.slice m1 m2 m3, .slice m4 m5 m6, .int .i64 (c)] 27)))
            have HN := Lib.hid hN
            clear hN
            generalize (w8.alloc (.cells #[.slice m1 m2 m3, .slice m4 m5 m6, .int .i64 (c)] 27)) = w9 at *
            go_region_with (go_at_call 59; ((refine (HG.out _ _ _ (show Rd (World.drew w9) _ _ from Q1.out.rd) (show Rd (World.drew w9) _ _ from Q2.out.rd)).mono ?_); rintro e w10 ⟨rfl, hb10⟩; have hbx : Below w9.heap.size w9 w10 := ((Below.refl _ w9).drew).trans hb10; have HR10 := Lib.hid (HR9.out.below hbx); have T1 := Lib.hid (Q1.out.below hbx); have T2 := Lib.hid (Q2.out.below hbx); have HB10 := Lib.hid (Below.step HB9.out hbx); have r0 := HR10.out.c0; have r1 := HR10.out.c1; have r2 := HR10.out.c2; have g0 := HR10.out.free 0; have g1 := HR10.out.free 1; have g2 := HR10.out.free 2; have z0 := (HN.out.below hbx).c0; have z1 := (HN.out.below hbx).c1; have z2 := (HN.out.below hbx).c2; clear hb10 hbx))
            all_goals
              have G1 : ∀ k, (Value.slice m1 m2 m3).ownBlock = some k → (some (w.heap.size + 1) : Option Nat) ≠ some k := fun k hk e => by have h5 := (T1.out.lt k hk).1; have := HGE.out; simp at e; omega
              have G2 : ∀ k, (Value.slice m4 m5 m6).ownBlock = some k → (some (w.heap.size + 1) : Option Nat) ≠ some k := fun k hk e => by have h5 := (T2.out.lt k hk).1; have := HGE.out; simp at e; omega
              go_wp2
              exact bodyPost_ret (results_sst _ _ (w.heap.size + 1) _ _ _ sb (((HR10.out.set0 _).set1 _).set2 _) rfl rfl) rfl ⟨_, _, by rw [HCL.out, HSB.out], (T1.out.grown (grownS_trans (grownS_trans grownS_setCell grownS_setCell) grownS_setCell) G1).mono (by have := HGE.out; omega), (T2.out.grown (grownS_trans (grownS_trans grownS_setCell grownS_setCell) grownS_setCell) G2).mono (by have := HGE.out; omega), PAP.out, ((HB10.out.setCell (p := ⟨w.heap.size + 1, 0, none⟩) (Nat.le_succ _) _).setCell (p := ⟨w.heap.size + 1, 1, none⟩) (Nat.le_succ _) _).setCell (p := ⟨w.heap.size + 1, 2, none⟩) (Nat.le_succ _) _⟩

end Go.Proofs.Ytllhdmpnjcemkac
