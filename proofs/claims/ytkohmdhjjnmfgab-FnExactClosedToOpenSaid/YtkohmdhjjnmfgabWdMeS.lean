/- PermutationOf and CycleOf in the model. -/
import Derived.Test.YtkohmdhjjnmfgabWdMe
import Derived.Test.YtkohmdhjjnmfgabMeCol
namespace Go.Proofs.Ytkohmdhjjnmfgab
open Go.RowKit
set_option linter.unusedSimpArgs false
set_option linter.unusedVariables false

theorem peSingle_any (t b : List Int) (w : World) (u1 u2 : Value) (h1 : Rd w u1 t) (h2 : Rd w u2 b) (m1 : t.length ≤ 1048576) (m2 : b.length ≤ 1048576) :
    Calls Try.prog 37 #[.agg #[u1, u2]] w (Tells w (oneB t b)) := by
  unfold oneB
  have hA := Box2.new 28 w u1 u2
  have B1 : Below w.heap.size w (w.alloc (.cells #[u1, u2] 28)) := Below.alloc1 w _
  have k0 := hA.c0; have k1 := hA.c1
  have hrd := mePair_any t b _ u1 u2 (h1.below B1) (h2.below B1) m1 m2
  have HB := Lib.hid B1; have HA := Lib.hid hA; have H1 := Lib.hid (h1.below B1); have H2 := Lib.hid (h2.below B1)
  clear hA B1 h1 h2
  cases e1 : pairOk t b with
  | false =>
    rw [e1] at hrd
    have HR := Lib.hid hrd; clear hrd e1
    rw [Bool.false_and]
    go_enter Try.func37, Try.ntmps37
    go_wp2_with fail
    refine HR.out.mono ?_
    rintro e w1 ⟨rfl, hb1⟩
    go_wp2
    go_ret
    exact ⟨rfl, Below.step HB.out hb1⟩
  | true =>
    rw [e1] at hrd
    obtain ⟨g1, g2, g3⟩ := pairOk_facts e1
    have HT := Lib.hid (fun w h1 h2 => meCount_any t b g1 g2 g3 w u1 u2 h1 h2)
    have HE : Hid ((((compsL t b : Nat) : Int) == 1) = decide (compsL t b = 1)) := by
      show _ = _
      rw [Bool.eq_iff_iff]; simp; omega
    have HR := Lib.hid hrd; clear hrd e1 g1 g2 g3
    simp only [Bool.true_and]
    rw [← HE.out]
    unfold compsL at *
    generalize cntN (par t) (par b) t.length = N at *
    go_enter Try.func37, Try.ntmps37
    go_wp2_with fail
    refine HR.out.mono ?_
    rintro e w1 ⟨rfl, hb1⟩
    have m0 := (HA.out.below hb1).c0; have m1 := (HA.out.below hb1).c1
    have H11 := Lib.hid (H1.out.below hb1); have H21 := Lib.hid (H2.out.below hb1); have HB1 := Lib.hid (Below.step HB.out hb1)
    clear hb1 k0 k1
    go_wp2_with fail
    refine (HT.out _ H11.out H21.out).mono ?_
    rintro e w2 ⟨rfl, hb2⟩
    go_wp2
    go_ret
    exact ⟨rfl, Below.step HB1.out hb2⟩

theorem wsel_yes {t b : List Int} (h : oneB t b = true) : wsel t b = wordM t b := by unfold wsel; rw [h, selL_yes]
theorem wseli_yes {t b : List Int} (h : oneB t b = true) : wseli t b = idxW (wordM t b) := by unfold wseli; rw [h]; rfl
theorem wsel_no {t b : List Int} (h : oneB t b = false) : wsel t b = [] := by unfold wsel; rw [h, selL_no]

set_option maxHeartbeats 2000000 in
theorem spec_PermutationOf (t b : List Int) (w : World) (u1 u2 : Value) (h1 : Rd w u1 t) (h2 : Rd w u2 b) (m1 : t.length ≤ 1048576) (m2 : b.length ≤ 1048576) :
    Calls Try.prog 11 #[.agg #[u1, u2]] w (Gives w (res_PermutationOf t b) (ok_PermutationOf t b)) := by
  unfold res_PermutationOf ok_PermutationOf
  have hA := Box2.new 28 w u1 u2
  have B1 : Below w.heap.size w (w.alloc (.cells #[u1, u2] 28)) := Below.alloc1 w _
  have k0 := hA.c0; have k1 := hA.c1
  have hrd := peSingle_any t b _ u1 u2 (h1.below B1) (h2.below B1) m1 m2
  have HB := Lib.hid B1; have HA := Lib.hid hA; have H1 := Lib.hid (h1.below B1); have H2 := Lib.hid (h2.below B1)
  clear hA B1 h1 h2
  cases e1 : oneB t b with
  | false =>
    rw [e1] at hrd
    rw [wsel_no e1]
    have HR := Lib.hid hrd; clear hrd e1
    go_enter Try.func11, Try.ntmps11
    go_wp2_with fail
    refine HR.out.mono ?_
    rintro e w1 ⟨rfl, hb1⟩
    go_wp2
    go_ret2
    exact ⟨_, rfl, Own.nil _ _, Below.step HB.out hb1⟩
  | true =>
    rw [e1] at hrd
    rw [wsel_yes e1]
    obtain ⟨hpo, _, _, _, _, hpos⟩ := one_facts e1
    obtain ⟨g1, g2, g3⟩ := pairOk_facts hpo
    have HT := Lib.hid (fun w h1 h2 => meWay_any t b g1 g2 g3 w u1 u2 h1 h2 0 hpos)
    have HR := Lib.hid hrd; clear hrd e1 g1 g2 g3 hpo hpos
    unfold wordM
    generalize wayV (par t) (par b) t.length 0 = L at *
    go_enter Try.func11, Try.ntmps11
    go_wp2_with fail
    refine HR.out.mono ?_
    rintro e w1 ⟨rfl, hb1⟩
    have m0 := (HA.out.below hb1).c0; have m1 := (HA.out.below hb1).c1
    have H11 := Lib.hid (H1.out.below hb1); have H21 := Lib.hid (H2.out.below hb1); have HB1 := Lib.hid (Below.step HB.out hb1)
    clear hb1 k0 k1
    go_wp2_with fail
    refine (HT.out _ H11.out H21.out).mono ?_
    rintro e w2 ⟨v2, rfl, hown, hb2⟩
    go_wp2
    go_ret2
    exact ⟨_, rfl, hown.mono HB1.out.size, Below.step HB1.out hb2⟩

def cycF (L : List Int) (i : Nat) : Int := L.getD ((i + 1) % L.length) 0
theorem putK_cyc {t b : List Int} (h : oneB t b = true) : putK (wordM t b) (cycF (wordM t b)) (wordM t b).length (wordM t b).length = res_CycleOf t b := by
  obtain ⟨_, _, hW, _⟩ := one_facts h
  unfold res_CycleOf
  rw [wsel_yes h, wseli_yes h]
  exact putK_tell hW _ _ fun i hi => by
    have := word_idx hW hi
    unfold idxW cycF
    rw [this, Int.toNat_natCast]
set_option maxHeartbeats 4000000 in
theorem spec_CycleOf (t b : List Int) (w : World) (u1 u2 : Value) (h1 : Rd w u1 t) (h2 : Rd w u2 b) (m1 : t.length ≤ 1048576) (m2 : b.length ≤ 1048576) :
    Calls Try.prog 19 #[.agg #[u1, u2]] w (Gives w (res_CycleOf t b) (ok_CycleOf t b)) := by
  unfold ok_CycleOf
  have hA := Box2.new 28 w u1 u2
  have B1 : Below w.heap.size w (w.alloc (.cells #[u1, u2] 28)) := Below.alloc1 w _
  have k0 := hA.c0; have k1 := hA.c1
  have hrd := peSingle_any t b _ u1 u2 (h1.below B1) (h2.below B1) m1 m2
  have HB := Lib.hid B1; have HA := Lib.hid hA; have H1 := Lib.hid (h1.below B1); have H2 := Lib.hid (h2.below B1)
  clear hA B1 h1 h2
  cases e1 : oneB t b with
  | false =>
    rw [e1] at hrd
    have hr : res_CycleOf t b = [] := by unfold res_CycleOf; rw [wsel_no e1]; rfl
    rw [hr]
    have HR := Lib.hid hrd; clear hrd e1 hr
    go_enter Try.func19, Try.ntmps19
    go_wp2_with fail
    refine HR.out.mono ?_
    rintro e w1 ⟨rfl, hb1⟩
    go_wp2
    go_ret2
    exact ⟨_, rfl, Own.nil _ _, Below.step HB.out hb1⟩
  | true =>
    rw [e1] at hrd
    rw [← putK_cyc e1]
    obtain ⟨hpo, hL, hW, hn12, _, hpos⟩ := one_facts e1
    obtain ⟨g1, g2, g3⟩ := pairOk_facts hpo
    have hin : ∀ i, i < (wordM t b).length → 0 ≤ (wordM t b).getD i 0 ∧ (wordM t b).getD i 0 < ((wordM t b).length : Int) := (word_facts hW).2.1
    have HT := Lib.hid (fun w h1 h2 => meWay_any t b g1 g2 g3 w u1 u2 h1 h2 0 hpos)
    have HR := Lib.hid hrd
    have hcyc : ∀ i, cycF (wordM t b) i = (wordM t b).getD ((i + 1) % t.length) 0 := fun i => by unfold cycF; rw [hL]
    have HLN := Lib.hid hL
    generalize hf : cycF (wordM t b) = f at *
    clear hrd e1 g1 g2 g3 hpo hW
    unfold wordM at *
    generalize wayV (par t) (par b) t.length 0 = L at *
    obtain ⟨n, hn⟩ : ∃ n, n = t.length := ⟨_, rfl⟩
    rw [hL] at hin ⊢
    rw [← hn] at HLN hn12 hpos hcyc hin ⊢
    have HIN : Hid (∀ i, i < n → 0 ≤ L.getD i 0 ∧ L.getD i 0 < n) := hin
    have HCY := Lib.hid hcyc
    clear hn hL hin hcyc hf
    go_enter Try.func19, Try.ntmps19
    go_wp2_with fail
    refine HR.out.mono ?_
    rintro e w1 ⟨rfl, hb1⟩
    have m0 := (HA.out.below hb1).c0; have m1 := (HA.out.below hb1).c1
    have H11 := Lib.hid (H1.out.below hb1); have H21 := Lib.hid (H2.out.below hb1); have HB1 := Lib.hid (Below.step HB.out hb1)
    clear hb1 k0 k1
    go_wp2_with fail
    refine (HT.out _ H11.out H21.out).mono ?_
    rintro e w2 ⟨v2, rfl, hown, hb2⟩
    obtain ⟨bb, off, c, rfl, hlc, hcm, hcell⟩ := hown.rd.at (by rw [HLN.out]; exact hpos)
    rw [HLN.out] at hlc hcell ⊢
    unfold maxLen at hcm
    have HC := Lib.hid hcell; have HB2 := Lib.hid (Below.step HB1.out hb2)
    clear hown hcell hb2 m0 m1
    go_wp2_with (at_make; refine wp_make w2 rfl _ _ rfl n _ _ rfl rfl rfl rfl (by omega) ?_; intro w3 hown3 hbel3 hsz3; have HO := Lib.hid hown3; have HB3 := Lib.hid (Below.step HB2.out hbel3); have HB23 := Lib.hid hbel3; clear hown3 hbel3 hsz3)
    go_loopw [18] (fun i wr => ∃ k : Nat, k ≤ n ∧ i = .int .i64 k ∧ Own w2.heap.size wr (.slice (some ⟨w2.heap.size, 0, none⟩) n n) (putK L f n k) ∧ Below w.heap.size w wr ∧ Below w2.heap.size w2 wr) (fun i _ => n - (intOf i).toNat)
    case atStart => exact ⟨0, by omega, rfl, HO.out, HB3.out, HB23.out⟩
    case round =>
      obtain ⟨k, hk, rfl, hown, hbel, hbel2⟩ := hrel
      clear HO HB3 HB23
      have hs2 := HB2.out.size
      by_cases hlt : k < n
      · have keep : ∀ k, k < n → wr.cell? ⟨bb, off + k, none⟩ = some (.int .i64 (L.getD k 0)) := fun k hk => (hbel2.cell (p := ⟨bb, off + k, none⟩) (World.block_lt_of_cell? w2 _ (HC.out k hk))).trans (HC.out k hk)
        have hsrc := keep k hlt
        have hql : (k + 1) % n < n := Nat.mod_lt _ (by omega)
        have hsr2 := keep ((k + 1) % n) hql
        have hrem : ((k : Int) + 1).tmod (n : Int) = (((k + 1) % n : Nat) : Int) := by
          rw [Int.natCast_emod, Int.natCast_add]
          exact Int.tmod_eq_emod_of_nonneg (by omega)
        have hx := HIN.out k hlt
        have hP := putK_length L f n k
        have hnext : putK L f n (k + 1) = (putK L f n k).set (L.getD k 0).toNat (f k) := rfl
        rw [HCY.out k] at hnext
        generalize (k + 1) % n = q at hql hsr2 hrem hnext
        generalize L.getD q 0 = y at hsr2 hnext
        obtain ⟨j, hj⟩ := Int.eq_ofNat_of_zero_le hx.1
        rw [hj] at hsrc hnext hx
        rw [Int.toNat_natCast] at hnext
        have hjn : j < n := by omega
        have hdst := hown.cellAt j (by rw [hP]; exact hjn)
        have hfr := hown.frozenAt j
        have hnew := hown.stored j y
        rw [← hnext] at hnew
        have HW := Lib.hid hnew
        have HB := Lib.hid (hbel.setCell (p := ⟨w2.heap.size, j, none⟩) hs2 (.int .i64 y))
        have HBB := Lib.hid (hbel2.setCell (p := ⟨w2.heap.size, j, none⟩) (Nat.le_refl _) (.int .i64 y))
        have hwk : IntKind.i64.wrap ((k : Int) + 1) = (k : Int) + 1 := IntWalk.i64_in _ (by omega)
        have hn0 : (n : Int) ≠ 0 := by omega
        have hq1 : (0 : Int) ≤ (q : Int) := by omega
        have hq2 : (q : Int) < (n : Int) := by omega
        clear hnew hown hbel hbel2 keep hP hnext hj
        generalize (putK L f n k).getD j 0 = z at hdst
        go_wp2
        go_roundw
        case rel => exact ⟨k + 1, by omega, by go_num, HW.out, HB.out, HBB.out⟩
        case measure => simp [intOf]; omega
      · obtain rfl : k = n := by omega
        go_wp2
        go_ret2
        exact ⟨_, rfl, hown.mono hs2, hbel⟩

end Go.Proofs.Ytkohmdhjjnmfgab
