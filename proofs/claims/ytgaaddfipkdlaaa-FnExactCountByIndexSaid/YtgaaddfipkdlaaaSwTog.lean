/- The model tells paths and cycles. -/
import Derived.Test.YtgaaddfipkdlaaaWeedArcsR
import Derived.Test.YtgaaddfipkdlaaaWeedSw
import Derived.Test.YtgaaddfipkdlaaaTogMath
import Derived.Test.YtgaaddfipkdlaaaLists
import Derived.Deep.RegionHeld3
import Derived.Laws.BitsAllLaws
import Derived.Laws.Shifts
namespace Go.Proofs.Ytgaaddfipkdlaaa
open Go.RowKit
set_option linter.unusedSimpArgs false
set_option linter.unusedVariables false

theorem i64_or_nat (a b : Nat) (ha : a < 4294967296) (hb : b < 4294967296) : bits .or .i64 (a : Int) (b : Int) = ((a ||| b : Nat) : Int) := by
  have h : a ||| b < 2 ^ 32 := Nat.or_lt_two_pow ha hb
  show IntKind.i64.wrap ((BitVec.ofInt 64 (a : Int) ||| BitVec.ofInt 64 (b : Int)).toNat : Int) = _
  rw [BitVec.toNat_or, ofInt_u64 a (by omega), ofInt_u64 b (by omega)]
  exact IntWalk.i64_in _ (by omega)
theorem wrap_pow (k : Nat) (hk : k ≤ 20) : wrap64 (2 ^ k) = ((2 ^ k : Nat) : Int) := by
  have h : (2 : Nat) ^ k ≤ 2 ^ 20 := Nat.pow_le_pow_right (by omega) hk
  have e : ((2 : Int) ^ k) = ((2 ^ k : Nat) : Int) := by simp
  have h0 : 0 < (2 : Nat) ^ k := Nat.two_pow_pos k
  rw [e]
  generalize (2 : Nat) ^ k = z at *
  unfold wrap64; omega
theorem or3_nat {S x y : Nat} (hx : x ≤ 20) (hy : y ≤ 20) (hS : S < 4294967296) : bits .or .i64 (S : Int) (bits .or .i64 (2 ^ x) (2 ^ y)) = ((S ||| (2 ^ x ||| 2 ^ y) : Nat) : Int) := by
  have e1 : ((2 : Int) ^ x) = ((2 ^ x : Nat) : Int) := by simp
  have e2 : ((2 : Int) ^ y) = ((2 ^ y : Nat) : Int) := by simp
  have h1 : (2 : Nat) ^ x ≤ 2 ^ 20 := Nat.pow_le_pow_right (by omega) hx
  have h2 : (2 : Nat) ^ y ≤ 2 ^ 20 := Nat.pow_le_pow_right (by omega) hy
  have h3 : 2 ^ x ||| 2 ^ y < 2 ^ 32 := Nat.or_lt_two_pow (by omega) (by omega)
  rw [e1, e2, i64_or_nat _ _ (by omega) (by omega), i64_or_nat _ _ hS (by omega)]
theorem ends_or (e : Bool) (x y j : Nat) : (e || (x == j || y == j)) = (e || decide ((x : Int) = j) || decide ((y : Int) = j)) := by
  have h : ∀ z : Nat, (z == j) = decide ((z : Int) = j) := fun z => by rw [Bool.eq_iff_iff]; simp only [beq_iff_eq, decide_eq_true_iff]; omega
  rw [h, h, Bool.or_assoc]
set_option maxHeartbeats 2000000 in
set_option maxRecDepth 100000 in
theorem swTogether_any (t b : List Int) (p : Bool) (w : World) (a1 a2 : Option Addr) (n1 c1 n2 c2 : Nat) (h1 : Rd w (.slice a1 n1 c1) t) (h2 : Rd w (.slice a2 n2 c2) b) (hw : weedB t b = true) :
    Calls Try.prog 34 #[.agg #[.slice a1 n1 c1, .slice a2 n2 c2], .bool p] w (MadeLL w (weedWanted t b p)) := by
  have e1 := (weed_facts hw).1; have e2 := (weed_facts hw).2.1; have e3 := (weed_facts hw).2.2
  have HT := Lib.hid (fun W (hb : Below w.heap.size w W) => swArcs_any _ t W (h1.below hb) e1)
  have HBo := Lib.hid (fun W (hb : Below w.heap.size w W) => swArcs_any _ b W (h2.below hb) e2)
  have hlt : (arcsL t).length = t.sum.toNat := arcs_len e1
  have hlb : (arcsL b).length = t.sum.toNat := by rw [e3]; exact arcs_len e2
  have hn20 : t.sum.toNat ≤ 20 := by have := (parts_facts e1).2.1; omega
  have HI1 := Lib.hid (arcs_inv e1)
  have HI2 : Hid (Inv t.sum.toNat (arcN b)) := by rw [e3]; exact arcs_inv e2
  have HV1 := Lib.hid (fun j (hj : j < t.sum.toNat) => (arcs_at e1 hj).1)
  have HV2 := Lib.hid (fun j (hj : j < t.sum.toNat) => (arcs_at e2 (j := j) (by rw [← e3]; exact hj)).1)
  have HW := Lib.hid (wantUp_all t b p)
  have hA := Box2.new 29 w (.slice a1 n1 c1) (.slice a2 n2 c2)
  have k0 := hA.c0; have k1 := hA.c1
  have HB := Lib.hid (Below.alloc1 w (.cells #[.slice a1 n1 c1, .slice a2 n2 c2] 29)); have HA := Lib.hid hA
  rw [← HW.out]
  clear hA h1 h2 hw e1 e2 e3
  generalize arcsL t = AT at *
  generalize arcsL b = AB at *
  generalize arcN t = T at *
  generalize arcN b = B at *
  generalize t.sum.toNat = n at *
  have HLT := Lib.hid hlt; have HLB := Lib.hid hlb
  go_enter Try.func34, Try.ntmps34
  go_wp2_with fail
  generalize (w.alloc (.cells #[.slice a1 n1 c1, .slice a2 n2 c2] 29)) = W at *
  have hS : Hid (Below w.heap.size w W.drew) ∧ W.drew.cell? ⟨w.heap.size, 0, none⟩ = some (.slice a1 n1 c1) ∧ W.drew.cell? ⟨w.heap.size, 1, none⟩ = some (.slice a2 n2 c2) := ⟨HB.out.drew, HA.out.c0, HA.out.c1⟩
  go_region_held3 (fun w' => Hid (Below w.heap.size w w') ∧ w'.cell? ⟨w.heap.size, 0, none⟩ = some (.slice a1 n1 c1) ∧ w'.cell? ⟨w.heap.size, 1, none⟩ = some (.slice a2 n2 c2))
    (first | assumption | exact s2_keep (by assumption) (by assumption))
    (first
      | (go_at_call 51; ((with_reducible refine (HT.out _ (s2_out (by assumption))).mono ?_); rintro e w1 ⟨v1, rfl, ho1, hb1⟩; obtain ⟨b1, d1, rfl, hb1c, hb1m⟩ := ho1.form; have HO1 := Lib.hid ho1; have HX1 := Lib.hid (Below.step HB.out.drew hb1); clear ho1))
      | (go_at_call 51; ((with_reducible refine (HBo.out _ (s2_out (by assumption))).mono ?_); rintro e w2 ⟨v2, rfl, ho2, hb2⟩; obtain ⟨b2, d2, rfl, hb2c, hb2m⟩ := ho2.form; have HO2 := Lib.hid ho2; have HO12 := Lib.hid (HO1.out.below hb2); have HX2 := Lib.hid (Below.step HX1.out hb2); clear ho2)))
  rw [hlt] at hb1c
  rw [hlb] at hb2c
  have hAI : Hid (∀ j, j < n → ∃ g1 g2, b1 = some ⟨g1, 0, none⟩ ∧ b2 = some ⟨g2, 0, none⟩ ∧ w2.cell? ⟨g1, j, none⟩ = some (.int .i64 (T j : Nat)) ∧ w2.cell? ⟨g2, j, none⟩ = some (.int .i64 (B j : Nat))) := by
    intro j hj
    rcases HO12.out.shape with ⟨_, h0⟩ | ⟨g1, q1, e1, _⟩
    · exfalso; have := HLT.out; rw [h0] at this; simp at this; omega
    rcases HO2.out.shape with ⟨_, h0⟩ | ⟨g2, q2, e2, _⟩
    · exfalso; have := HLB.out; rw [h0] at this; simp at this; omega
    simp only [Value.slice.injEq] at e1 e2
    obtain ⟨rfl, _, rfl⟩ := e1
    obtain ⟨rfl, _, rfl⟩ := e2
    refine ⟨g1, g2, rfl, rfl, ?_, ?_⟩
    · rw [← HV1.out j hj]; exact HO12.out.cellAt j (by have := HLT.out; omega)
    · rw [← HV2.out j hj]; exact HO2.out.cellAt j (by have := HLB.out; omega)
  rw [hlt] at HO1 HO12
  rw [hlb] at HO2
  unfold maxLen at hb1m hb2m
  clear hlt hlb HLT HLB HV1 HV2 HO1 HO2 HO12 hb1 hb2 HX1 HB HA HT HBo hS
  go_wp2
  go_loopw [7, 8, 24] (fun o s i wr => ∃ (k S : Nat) (vs : List Value), k ≤ n ∧ i = .int .i64 k ∧ s = .int .i64 S ∧ Hid (Bits n S (seenB T B k)) ∧ Hid (OwnLL w2.heap.size wr.heap.size wr o vs (wantUp n T B p k)) ∧ Hid (Below w2.heap.size w2 wr)) (fun _ _ i _ => n - (intOf i).toNat)
  case atStart => exact ⟨0, 0, [], by omega, rfl, rfl, (Bits.zero n).congr (fun x _ => (seen_zero x).symm), OwnLL.nil _ _ (Nat.le_refl _), Below.refl _ _⟩
  case round =>
    obtain ⟨k, S, vs, hk, rfl, rfl, HS, HO, HBW⟩ := hrel
    by_cases hkn : k < n
    · have hbt := bit_test S k
      rw [HS.out.bit k hkn] at hbt
      cases hsk : seenB T B k k with
      | true =>
        rw [hsk] at hbt
        have HS2 := Lib.hid (HS.out.congr (fun x _ => (seen_old hsk x).symm))
        have HWU := Lib.hid (wantUp_skip (p := p) (show firstB (comp n T B k) k = false by rw [seen_first HI1.out HI2.out hkn, hsk]; rfl))
        clear hsk
        go_wp2
        go_roundw
        case rel => exact ⟨k + 1, S, vs, by omega, by go_num, rfl, HS2, by rw [HWU.out]; exact HO, HBW⟩
        case measure => simp [intOf]; omega
      | false =>
        rw [hsk] at hbt
        have HF := Lib.hid (show firstB (comp n T B k) k = true by rw [seen_first HI1.out HI2.out hkn, hsk]; rfl)
        clear hsk
        have HB1 := Lib.hid (Bits.one hkn)
        generalize wr = wa at *
        go_wp2
        go_loopw [10, 11] (fun s c wr2 => ∃ (q S2 d : Nat), q ≤ n ∧ c = .int .i64 q ∧ s = .int .i64 S2 ∧ Hid (Bits n S2 (rAll T B n q (fun y => y == k))) ∧ wr2 = wa.drewN d) (fun _ c _ => n - (intOf c).toNat)
        case atStart => exact ⟨0, 2 ^ k, 0, by omega, rfl, by rw [wrap_pow k (by omega)], HB1, rfl⟩
        case round =>
          obtain ⟨q, S2, d, hq, rfl, rfl, HB2, rfl⟩ := hrel
          by_cases hqn : q < n
          · go_wp2
            go_loopw [10, 42] (fun s i wr3 => ∃ (j S3 d3 : Nat), j ≤ n ∧ i = .int .i64 j ∧ s = .int .i64 S3 ∧ Hid (Bits n S3 (rRound T B j (rAll T B n q (fun y => y == k)))) ∧ wr3 = wa.drewN d3) (fun _ i _ => n - (intOf i).toNat)
            case atStart => exact ⟨0, S2, d, by omega, rfl, rfl, HB2, rfl⟩
            case round =>
              obtain ⟨j, S3, d3, hj, rfl, rfl, HB3, rfl⟩ := hrel
              by_cases hjn : j < n
              · have hbt3 := bit_test S3 j
                rw [HB3.out.bit j hjn] at hbt3
                cases hfj : rRound T B j (rAll T B n q (fun y => y == k)) j with
                | true =>
                  rw [hfj] at hbt3
                  obtain ⟨g1, g2, rfl, rfl, hca, hcb⟩ := hAI.out j hjn
                  have hca3 : (wa.drewN d3).cell? ⟨g1, j, none⟩ = some (.int .i64 (T j : Nat)) := ((Below.drewN HBW.out d3).cell (World.block_lt_of_cell? w2 _ hca)).trans hca
                  have hcb3 : (wa.drewN d3).cell? ⟨g2, j, none⟩ = some (.int .i64 (B j : Nat)) := ((Below.drewN HBW.out d3).cell (World.block_lt_of_cell? w2 _ hcb)).trans hcb
                  have hca4 : wa.cell? ⟨g1, j, none⟩ = some (.int .i64 (T j : Nat)) := hca3
                  have hcb4 : wa.cell? ⟨g2, j, none⟩ = some (.int .i64 (B j : Nat)) := hcb3
                  clear hca hcb
                  have hTj := (HI1.out j hjn).1
                  have hBj := (HI2.out j hjn).1
                  have HB4 := Lib.hid ((HB3.out.or ((Bits.one hTj).or (Bits.one hBj))).congr (g := rRound T B (j + 1) (rAll T B n q (fun y => y == k))) (fun x _ => by show _ = rStep T B _ j x; unfold rStep; rw [hfj]; simp))
                  have HL3 := Lib.hid HB3.out.lt
                  have hp1 := wrap_pow (T j) (by omega)
                  have hp2 := wrap_pow (B j) (by omega)
                  have hpw : bits .or .i64 (S3 : Int) (bits .or .i64 (2 ^ T j) (2 ^ B j)) = ((S3 ||| (2 ^ T j ||| 2 ^ B j) : Nat) : Int) := or3_nat (by omega) (by omega) (by have := HL3.out; have := Nat.pow_le_pow_right (n := 2) (by omega) hn20; omega)
                  go_wp2
                  go_quiet (fail)
                  go_wp2
                  go_roundw
                  case rel => exact ⟨j + 1, S3 ||| (2 ^ T j ||| 2 ^ B j), d3 + _, by omega, by go_num, rfl, HB4, rfl⟩
                  case measure => simp [intOf]; omega
                | false =>
                  rw [hfj] at hbt3
                  have HB4 := Lib.hid (HB3.out.congr (g := rRound T B (j + 1) (rAll T B n q (fun y => y == k))) (fun x _ => by show _ = rStep T B _ j x; unfold rStep; rw [hfj]; simp))
                  clear hfj
                  go_wp2
                  go_roundw
                  case rel => exact ⟨j + 1, S3, d3, by omega, by go_num, rfl, HB4, rfl⟩
                  case measure => simp [intOf]; omega
              · obtain rfl : j = n := by omega
                go_wp2
                go_roundw
                case rel => exact ⟨q + 1, S3, d3, by omega, by go_num, rfl, HB3, rfl⟩
                case measure => simp [intOf]; omega
          · obtain rfl : q = n := by omega
            have HSN := Lib.hid ((HS.out.or HB2.out).congr (g := seenB T B (k + 1)) (fun x hx => seen_new HI1.out HI2.out hkn hx))
            have hl8 := HS.out.lt; have hl9 := HB2.out.lt
            have hq0 : (2 : Nat) ^ q ≤ 2 ^ 20 := Nat.pow_le_pow_right (by omega) hn20
            have hor := i64_or_nat S S2 (by omega) (by omega)
            have HPC := Lib.hid (ptsUp_comp HI1.out HI2.out hkn)
            have HBD : Hid (Below w2.heap.size w2 (wa.drewN d)) := Below.drewN HBW.out d
            have HOD := Lib.hid (show OwnLL w2.heap.size (wa.drewN d).heap.size (wa.drewN d) _ vs (wantUp q T B p k) from OwnLL.below HO.out (Below.drewN (Below.refl _ wa) d))
            clear hl8 hl9 hq0 HO HBW HS
            generalize wa.drewN d = wb at *
            go_wp2
            go_loopw [13, 14, 69] (fun pts en i wr4 => ∃ (j : Nat), j ≤ q ∧ i = .int .i64 j ∧ en = .bool (endB T B (ptsUp (rAll T B q q (fun y => y == k)) j)) ∧ Hid (Own wb.heap.size wr4 pts (natL (ptsUp (rAll T B q q (fun y => y == k)) j))) ∧ Hid (Below wb.heap.size wb wr4)) (fun _ _ i _ => q - (intOf i).toNat)
            case atStart => exact ⟨0, by omega, rfl, rfl, Own.nil _ _, Below.refl _ _⟩
            case round =>
              obtain ⟨j, hj, rfl, rfl, HOP, HB4⟩ := hrel
              have hpl := ptsUp_len (rAll T B q q (fun y => y == k)) j
              by_cases hjq : j < q
              · have hbt5 := bit_test S2 j
                rw [HB2.out.bit j hjq] at hbt5
                cases hF : (rAll T B q q (fun y => y == k)) j with
                | true =>
                  rw [hF] at hbt5
                  obtain ⟨g1, g2, rfl, rfl, hca, hcb⟩ := hAI.out j hjq
                  have HPS := Lib.hid (show ptsUp (rAll T B q q (fun y => y == k)) (j + 1) = ptsUp (rAll T B q q (fun y => y == k)) j ++ [j] by rw [ptsUp_succ, hF]; rfl)
                  have HES := Lib.hid (show endB T B (ptsUp (rAll T B q q (fun y => y == k)) (j + 1)) = (endB T B (ptsUp (rAll T B q q (fun y => y == k)) j) || (T j == j || B j == j)) by rw [HPS.out, endB_snoc])
                  have HCA := Lib.hid hca; have HCB := Lib.hid hcb
                  have HPL := Lib.hid hpl
                  clear hF hca hcb hpl
                  cases hE : endB T B (ptsUp (rAll T B q q (fun y => y == k)) j) <;> by_cases hT : (T j : Int) = j <;> by_cases hB : (B j : Int) = j
                  all_goals
                    have HEE := Lib.hid hE
                    rw [hE] at HES
                    clear hE
                    have HTT := Lib.hid hT; have HBB := Lib.hid hB
                    go_wp2_with (at_builtin; refine wp_append _ rfl _ _ rfl wb.heap.size _ _ (natL (ptsUp (rAll T B q q (fun y => y == k)) j)) [(j : Int)] rfl rfl (Own.below HOP.out (Below.alloc1 _ _)) (Own.rd (Own.lit1 _ _ _ (Nat.le_refl _))) (by have := HPL.out; simp [natL]; omega) (by have := HB4.out.size; simp; omega) ?_; intro v' w6 hown2 hgr hbel2; rw [← natL_snoc, ← HPS.out] at hown2; have HB6 := Lib.hid ((HB4.out.alloc HB4.out.size _).trans hbel2); have HO6 := Lib.hid hown2; have hc1 := ((HBD.out.trans (HB6.out.mono HBD.out.size)).cell (p := ⟨g1, j, none⟩) (World.block_lt_of_cell? w2 _ HCA.out)).trans HCA.out; have hc2 := ((HBD.out.trans (HB6.out.mono HBD.out.size)).cell (p := ⟨g2, j, none⟩) (World.block_lt_of_cell? w2 _ HCB.out)).trans HCB.out; clear hown2 hgr hbel2)
                    go_roundw
                    case rel => exact ⟨j + 1, by omega, by go_num, by rw [HES.out, ends_or]; simp [HTT.out, HBB.out], HO6, HB6⟩
                    case measure => simp [intOf]; omega
                | false =>
                  rw [hF] at hbt5
                  have HPS := Lib.hid (show ptsUp (rAll T B q q (fun y => y == k)) (j + 1) = ptsUp (rAll T B q q (fun y => y == k)) j by rw [ptsUp_succ, hF]; simp)
                  clear hF
                  go_wp2
                  go_roundw
                  case rel => exact ⟨j + 1, by omega, by go_num, by rw [HPS.out], by rw [HPS.out]; exact HOP, HB4⟩
                  case measure => simp [intOf]; omega
              · obtain rfl : j = q := by omega
                rw [HPC.out] at HOP
                rw [HPC.out]
                obtain ⟨x1, y1, z1, rfl⟩ := HOP.out.form'
                have hsz := HBD.out.size; have hsz4 := HB4.out.size
                have HLW := Lib.hid (wantUp_len (n := j) (T := T) (B := B) p k)
                cases hE : (endB T B (comp j T B k) == p) with
                | true =>
                  have HWU := Lib.hid (wantUp_take HF.out hE)
                  have hB0 := Below.step HBD.out HB4.out
                  have HB5 := Lib.hid hB0
                  go_wp2_with (at_builtin; refine wp_appendLL _ rfl _ _ rfl w2.heap.size wb.heap.size wb.heap.size wr.heap.size _ (.slice x1 y1 z1) vs (wantUp j T B p k) (natL (comp j T B k)) rfl rfl (cell_lit1 wr (.slice x1 y1 z1) _) (OwnLL.below HOD.out (HB4.out.alloc HB4.out.size _)) (Own.below HOP.out (Below.alloc1 _ _)) (Nat.le_refl _) hsz (by have := HLW.out; omega) (by simp; omega) ?_; intro o' w7 hown7 hgr7 hbel7 hwh7; rw [← HWU.out] at hown7; have HO7 := Lib.hid hown7; have HB7 := Lib.hid ((HB5.out.alloc HB5.out.size _).trans hbel7); clear hown7 hgr7 hbel7 hwh7)
                  go_roundw
                  case rel => exact ⟨k + 1, _, _, by omega, by go_num, rfl, HSN, HO7, HB7⟩
                  case measure => simp [intOf]; omega
                | false =>
                  have HWU := Lib.hid (wantUp_pass HF.out hE)
                  go_wp2
                  go_roundw
                  case rel => exact ⟨k + 1, _, vs, by omega, by go_num, rfl, HSN, by rw [HWU.out]; exact (OwnLL.below HOD.out HB4.out).mono (Nat.le_refl _) HB4.out.size (Nat.le_refl _), HBD.out.trans (HB4.out.mono HBD.out.size)⟩
                  case measure => simp [intOf]; omega
    · obtain rfl : k = n := by omega
      go_wp2
      go_ret
      exact ⟨_, _, rfl, HO.out.mono HX2.out.size (Nat.le_refl _) (Nat.le_refl _), Below.step HX2.out HBW.out⟩
end Go.Proofs.Ytgaaddfipkdlaaa
