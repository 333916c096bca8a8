/- CurvesOf: the program's function and the model's. -/
import Derived.Test.YtpanajnlkacmdaaComps
import Derived.Test.YtpanajnlkacmdaaCurvesM
import Derived.Test.YtpanajnlkacmdaaRowApp
import Derived.Test.YtpanajnlkacmdaaListsLaw
namespace Go.Proofs.Ytpanajnlkacmdaa
open Go.RowKit
set_option linter.unusedSimpArgs false
set_option linter.unusedVariables false

def ok_CurvesOf (t b : List Int) : Bool := pairOk t b
def res_CurvesOf (t b : List Int) : List (List Int) := if pairOk t b then curvesLL t b else []
theorem len_CurvesOf (t b : List Int) : tot (res_CurvesOf t b) ≤ 1000000 ∧ ∀ i, i < (res_CurvesOf t b).length → ((res_CurvesOf t b).getD i []).length ≤ 1000000 := by
  have h : (res_CurvesOf t b).length ≤ 12 ∧ ∀ i, i < (res_CurvesOf t b).length → ((res_CurvesOf t b).getD i []).length ≤ 12 := by
    unfold res_CurvesOf
    cases h : pairOk t b with
    | false => simp
    | true =>
      obtain ⟨g1, g2, _⟩ := pairOk_facts h
      have h12 := good_len' g1
      have hc := cnt_le (par t) (par b) t.length
      simp only [if_true]
      unfold curvesLL
      rw [rowsK_length]
      refine ⟨by omega, fun i hi => ?_⟩
      rw [rowsK_getD _ _ _ _ hi]
      exact Nat.le_trans (rowK_len _ _ _) h12
  exact ⟨Nat.le_trans (tot_le (K := 12) h.2) (by omega), fun i hi => Nat.le_trans (h.2 i hi) (by omega)⟩

set_option maxHeartbeats 4000000 in
theorem impl_CurvesOf (t b : List Int) (w : World) (u1 u2 : Value) (h1 : Rd w u1 t) (h2 : Rd w u2 b) (m1 : t.length ≤ 1048576) (m2 : b.length ≤ 1048576) :
    Calls Try.prog 20 #[.agg #[u1, u2]] w (GivesLL w (res_CurvesOf t b) (ok_CurvesOf t b)) := by
  unfold res_CurvesOf ok_CurvesOf
  have hA := Box2.new 28 w u1 u2
  have B1 : Below w.heap.size w (w.alloc (.cells #[u1, u2] 28)) := Below.alloc1 w _
  have k0 := hA.c0; have k1 := hA.c1
  have hrd := readPair_any t b _ u1 u2 (h1.below B1) (h2.below B1)
  have HB := Lib.hid B1
  clear hA B1 h1 h2
  cases hR : pairOk t b with
  | false =>
    simp only [hR, Bool.false_eq_true, if_false] at hrd ⊢
    have HR := Lib.hid hrd; clear hrd hR
    go_enter Try.func20, Try.ntmps20
    go_wp2_with fail
    refine HR.out.mono ?_
    rintro e w1 ⟨rfl, hb1⟩
    have HB1 := Lib.hid (Below.step HB.out hb1); clear hb1 k0 k1
    go_wp2_with ((with_reducible refine wp_storePairN rfl (.tmp 4) (.tmp 14) rfl [] [] rfl rfl ?_); intro w2 hs2 hb2; have HB2 := Lib.hid (Below.step HB1.out hb2); clear hs2 hb2)
    go_ret2
    exact ⟨_, [], rfl, (OwnLL.nil w.heap.size _ HB2.out.size), HB2.out⟩
  | true =>
    simp only [hR, if_true] at hrd ⊢
    obtain ⟨q1, q2, q3⟩ := pairOk_facts hR
    have HC := Lib.hid (fun w => curves_of t b q1 q2 q3 w)
    have HSZ := Lib.hid (fun w => pairSize_any t b w)
    have pb := good_paired q2
    rw [← q3] at pb
    have hk := col_ok (good_paired q1) pb
    have hRES : curvesLL t b = rowsK (colN (par t) (par b) t.length) (compsL t b) t.length := rfl
    have HRNG := Lib.hid (fun x hx => And.intro (hk.done x hx hx) (hk.rng x hx).2)
    have HLN := Lib.hid hk.len
    have HR := Lib.hid hrd
    have hn12 := good_len' q1
    have hcl := compsL_le t b
    have hal := fun b w => run_mates b t.length w hn12
    rw [hRES]
    unfold compsL at HC hcl ⊢
    clear hrd hR q1 q2 q3 pb hk hRES
    generalize cntN (par t) (par b) t.length = N at *
    generalize colN (par t) (par b) t.length = c at *
    obtain ⟨n, hn⟩ : ∃ n, n = t.length := ⟨_, rfl⟩
    rw [← hn] at hn12 hal HRNG HLN HSZ hcl ⊢
    clear hn
    go_enter Try.func20, Try.ntmps20
    go_wp2_with fail
    refine HR.out.mono ?_
    rintro e w1 ⟨rfl, hb1⟩
    have HB1 := Lib.hid (Below.step HB.out hb1); clear hb1 k0 k1
    go_wp2_with (first
      | ((with_reducible refine wp_storePairN rfl (.tmp 4) (.tmp 14) rfl t b rfl rfl ?_); intro w2 hs2 hb2; have HS2 := Lib.hid hs2; have HB2 := Lib.hid (Below.step HB1.out hb2); clear hs2 hb2)
      | (with_reducible refine wp_loadPair rfl (.tmp 4) rfl w1.heap.size t b rfl HS2.out ?_)
      | (go_at_call 49; ((with_reducible refine (HC.out _).mono ?_); rintro e w3 ⟨rfl, hb3⟩; have HS3 := Lib.hid (HS2.out.below hb3); have HB3 := Lib.hid (Below.step HB2.out hb3); clear hb3 HS2))
      | ((with_reducible refine wp_storeArrNew rfl (.tmp 6) (.tmp 21) rfl _ rfl rfl ?_); intro w4 hs4 hb4; have HA4 := Lib.hid hs4; have HS4 := Lib.hid (HS3.out.below hb4); have HB4 := Lib.hid (Below.step HB3.out hb4); clear hs4 hb4)
      | (at_make; refine wp_makeLL _ rfl _ _ rfl N _ _ rfl rfl rfl rfl (by omega) ?_; intro w5 hown5 hb5 hsz5; have HA5 := Lib.hid (blk_below HA4.out hb5); have HS5 := Lib.hid (HS4.out.below hb5); have HO5 := Lib.hid hown5; have HB5 := Lib.hid (Below.step HB4.out hb5); have HX5 := Lib.hid hb5; clear hown5 hb5 hsz5 HS4)
      | (with_reducible refine wp_loadPair rfl (.tmp 4) rfl w1.heap.size t b rfl HS5.out ?_)
      | (go_at_call 50; ((with_reducible refine (HSZ.out _).mono ?_); rintro e w6 ⟨rfl, hb6⟩; have HA6 := Lib.hid (blk_below HA5.out hb6); have HO6 := Lib.hid (OwnLL.mono (OwnLL.below HO5.out hb6) (Nat.le_refl _) hb6.size (Nat.le_refl _)); have HB6 := Lib.hid (Below.step HB5.out hb6); have HX6 := Lib.hid (Below.step HX5.out hb6); clear hb6)))
    have hlo4 := HB4.out.size
    have hg34 : w3.heap.size < w4.heap.size := (Array.getElem?_eq_some_iff.1 HA4.out).1
    go_loopw [29] (fun i wr => ∃ (k : Nat) (vs : List Value), k ≤ n ∧ i = .int .i64 (k : Int) ∧ OwnLL w4.heap.size wr.heap.size wr (.slice (some ⟨w4.heap.size, 0, none⟩) N N) vs (rowsK c N k) ∧ wr.heap[w3.heap.size]? = some (.cells (idxA c) 56 (0, 0)) ∧ w4.heap.size ≤ wr.heap.size ∧ Below w.heap.size w wr) (fun i _ => n - (intOf i).toNat)
    case atStart => exact ⟨0, _, by omega, rfl, by rw [rowsK_zero]; exact HO6.out, HA6.out, HX6.out.size, HB6.out⟩
    case round =>
      obtain ⟨k, vs, hk, rfl, hown, harr, hlo, hbel⟩ := hrel
      clear HO6 HA6 HX6 HB6
      generalize wr = wa at *
      by_cases hlt : k < n
      · have hrng := HRNG.out k hlt
        obtain ⟨q, hcq0⟩ := Int.eq_ofNat_of_zero_le hrng.1
        have hqM : q < N := by have := hrng.2; omega
        have hca : wa.cell? ⟨w3.heap.size, k, none⟩ = some (.int .i64 (q : Int)) := by
          rw [cell_of_row wa _ _ _ _ _ harr, idxA_get c k (by omega), idxV, getD_in c k _ (by rw [HLN.out]; exact hlt), if_neg (by omega), hcq0]
        have HARR := Lib.hid harr
        clear hrng harr
        have hat := hown.at (by rw [rowsK_length]; omega)
        obtain ⟨gg, hgg, hg0, hg1, hcl, hfl⟩ := hat
        simp only [Option.some.injEq, Addr.mk.injEq] at hgg
        obtain ⟨rfl, -, -⟩ := hgg
        have hcq := hcl q (by rw [rowsK_length]; omega)
        have hoq := hown.own q (by rw [rowsK_length]; omega)
        rw [rowsK_getD _ _ _ _ hqM] at hoq
        have hset := rowsK_set (M := N) hqM hcq0
        have hrl := rowK_len c k q
        have hh2 := fun w2 hg => hown.rowHead (i := q) (w1 := wa.alloc (.cells #[.int .i64 (k : Int)] 3)) (w2 := w2) (by rw [rowsK_length]; omega) (Below.alloc1 _ _) hg
        have happ := fun w2 p' hp hg hw => hown.rowApp (i := q) (w1 := wa.alloc (.cells #[.int .i64 (k : Int)] 3)) (w2 := w2) (p' := p') (l := rowK c k q ++ [(k : Int)]) hlo (by rw [rowsK_length]; omega) (Below.alloc1 _ _) hp hg hw
        rw [hset] at happ
        have HH := Lib.hid hh2; have HAP := Lib.hid happ
        have hrv : ∃ a n c, rowV vs q = .slice a n c := hoq.form'
        obtain ⟨ra, rn, rc, hrv⟩ := hrv
        rw [hrv] at hcq hoq
        have HOQ := Lib.hid (hoq.below (Below.alloc1 wa (.cells #[.int .i64 (k : Int)] 3)))
        have HRV := Lib.hid hrv; have HOWN := Lib.hid hown; have HBE := Lib.hid hbel; have HRL := Lib.hid hrl; have HLO := Lib.hid hlo; have HQ0 := Lib.hid hcq0; have HG0 := Lib.hid hg0
        clear hcl hfl hoq hset hrl hh2 happ hrv hown hbel hlo hcq0 hg0 hg1
        go_wp2_with (at_builtin; (refine wp_appendW _ rfl _ _ rfl w4.heap.size wa.heap.size _ (rowK c k q) (k : Int) rfl rfl (cell_lit1 _ _ _) HOQ.out (by have := HRL.out; omega) (Nat.le_trans HLO.out (by simp)) ?_; intro p' w8 ho8 hg8 hb8 hw8; obtain ⟨px, py, pz, rfl⟩ := ho8.form'; have hg8' : (wa.alloc (.cells #[.int .i64 (k : Int)] 3)).grownBy w8 (rowV vs q).ownBlock := (by rw [HRV.out]; exact hg8); have hw8' : ∀ k', (Value.slice px py pz).ownBlock = some k' → (rowV vs q).ownBlock = some k' ∨ (wa.alloc (.cells #[.int .i64 (k : Int)] 3)).heap.size ≤ k' := (by rw [HRV.out]; exact hw8); have hh := HH.out _ hg8'; have hc8 := hh.1 q (by rw [rowsK_length]; omega); have hf8 := hh.2 q; rw [HRV.out] at hc8; have HN8 := Lib.hid (HAP.out w8 _ ho8 hg8' hw8'); have hb9 := ((HBE.out.alloc HBE.out.size (.cells #[.int .i64 (k : Int)] 3)).trans (hb8.mono hlo4)).setCell (p := ⟨w4.heap.size, q, none⟩) (Nat.le_trans hlo4 HG0.out) (.slice px py pz); have HB9 := Lib.hid hb9; have hbX := (((Below.refl w4.heap.size wa).alloc HLO.out (.cells #[.int .i64 (k : Int)] 3)).trans hb8).setCell (p := ⟨w4.heap.size, q, none⟩) (Nat.le_refl _) (.slice px py pz); have HA9 := Lib.hid ((hbX.block w3.heap.size hg34).trans HARR.out); have HZ9 := Lib.hid (Nat.le_trans HLO.out hbX.size); clear hbX; clear ho8 hg8 hb8 hw8 hg8' hw8' hh hb9))
        go_roundw
        case rel => exact ⟨k + 1, _, by omega, by go_num, OwnLL.mono HN8.out (Nat.le_refl _) (by simp) (by simp), HA9.out, HZ9.out, HB9.out⟩
        case measure => simp [intOf]; omega
      · obtain rfl : k = n := by omega
        have HO := Lib.hid hown; have HBE := Lib.hid hbel
        clear hown hbel harr
        go_wp2
        go_ret2
        exact ⟨_, vs, rfl, HO.out.mono hlo4 (Nat.le_refl _) (Nat.le_refl _), HBE.out⟩

set_option maxHeartbeats 4000000 in
theorem spec_CurvesOf (t b : List Int) (w : World) (u1 u2 : Value) (h1 : Rd w u1 t) (h2 : Rd w u2 b) (m1 : t.length ≤ 1048576) (m2 : b.length ≤ 1048576) :
    Calls Try.prog 19 #[.agg #[u1, u2]] w (GivesLL w (res_CurvesOf t b) (ok_CurvesOf t b)) := by
  unfold res_CurvesOf ok_CurvesOf
  have hA := Box2.new 28 w u1 u2
  have B1 : Below w.heap.size w (w.alloc (.cells #[u1, u2] 28)) := Below.alloc1 w _
  have k0 := hA.c0; have k1 := hA.c1
  have hrd := mePair_any t b _ u1 u2 (h1.below B1) (h2.below B1) m1 m2
  have HB := Lib.hid B1; have HA := Lib.hid hA; have H1 := Lib.hid (h1.below B1); have H2 := Lib.hid (h2.below B1)
  clear hA B1 h1 h2
  cases e1 : pairOk t b with
  | false =>
    rw [e1] at hrd
    have HR := Lib.hid hrd; clear hrd e1
    go_enter Try.func19, Try.ntmps19
    go_wp2_with fail
    refine HR.out.mono ?_
    rintro e w1 ⟨rfl, hb1⟩
    have HB1 := Lib.hid (Below.step HB.out hb1)
    go_wp2
    go_ret2
    exact ⟨_, [], rfl, (OwnLL.nil w.heap.size _ HB1.out.size), HB1.out⟩
  | true =>
    rw [e1] at hrd
    obtain ⟨g1, g2, g3⟩ := pairOk_facts e1
    have HT := Lib.hid (fun w h1 h2 => meColours_any t b g1 g2 g3 w u1 u2 h1 h2)
    have pb := good_paired g2
    rw [← g3] at pb
    have hk := col_ok (good_paired g1) pb
    have hRES : curvesLL t b = rowsK (colN (par t) (par b) t.length) (mxN (colN (par t) (par b) t.length) t.length) t.length := by rw [mxN_all (good_paired g1) pb]; rfl
    have HGE := Lib.hid (fun k hlt => mxN_ge hk k hlt)
    have HQN := Lib.hid (fun k (hlt : k < t.length) => (show (colN (par t) (par b) t.length).getD k 0 < (t.length : Int) from by have h1 := (hk.rng k hlt).2; have h2 := cnt_le (par t) (par b) t.length; omega))
    have HLN := Lib.hid hk.len
    have hn12 := good_len' g1
    have HR := Lib.hid hrd; clear hrd e1 g1 g2 g3 hk pb
    simp only [if_true]
    rw [hRES]
    clear hRES
    generalize colN (par t) (par b) t.length = c at *
    obtain ⟨n, hn⟩ : ∃ n, n = t.length := ⟨_, rfl⟩
    rw [← hn] at hn12 HGE HLN HQN ⊢
    clear hn
    go_enter Try.func19, Try.ntmps19
    go_wp2_with fail
    refine HR.out.mono ?_
    rintro e w1 ⟨rfl, hb1⟩
    have m0 := (HA.out.below hb1).c0; have m1 := (HA.out.below hb1).c1
    have H11 := Lib.hid (H1.out.below hb1); have H21 := Lib.hid (H2.out.below hb1); have HB1 := Lib.hid (Below.step HB.out hb1)
    clear hb1 k0 k1
    go_wp2_with fail
    refine (HT.out _ H11.out H21.out).mono ?_
    rintro e w2 ⟨v, rfl, ho2, hb2⟩
    obtain ⟨va, vc, rfl, hvl, hvm⟩ := ho2.form
    unfold maxLen at hvm
    rw [HLN.out] at hvl ⊢
    have HO2 := Lib.hid ho2; have HB2 := Lib.hid (Below.step HB1.out hb2)
    have hlo2 := HB2.out.size
    clear ho2 hb2 m0 m1
    go_wp2
    go_loopw [4, 13] (fun o i wr => ∃ (k : Nat) (vs : List Value), k ≤ n ∧ i = .int .i64 (k : Int) ∧ OwnLL w2.heap.size wr.heap.size wr o vs (rowsK c (mxN c k) k) ∧ Below w2.heap.size w2 wr ∧ Below w.heap.size w wr) (fun _ i _ => n - (intOf i).toNat)
    case atStart => exact ⟨0, [], by omega, rfl, OwnLL.nil _ _ (Nat.le_refl _), Below.refl _ _, HB2.out⟩
    case round =>
      obtain ⟨k, vs, hk, rfl, hown, hb2w, hbel⟩ := hrel
      clear HB2
      generalize wr = wa at *
      have hlo := hb2w.size
      by_cases hlt : k < n
      · have hge := HGE.out k hlt
        obtain ⟨q, hcq0⟩ := Int.eq_ofNat_of_zero_le hge.1
        have hqn := HQN.out k hlt
        rw [hcq0] at hge hqn
        have hqn' : q < n := by omega
        have hvv := HO2.out.below hb2w
        rcases hvv.shape with ⟨h0, h1⟩ | ⟨gv, cv, h0, _, _, _, _⟩
        · exfalso; have := HLN.out; rw [h1] at this; simp at this; omega
        simp only [Value.slice.injEq] at h0
        obtain ⟨rfl, -, rfl⟩ := h0
        have hca := hvv.cellAt k (by rw [HLN.out]; exact hlt)
        rw [hcq0] at hca
        obtain ⟨M, hM⟩ : ∃ M, M = mxN c k := ⟨_, rfl⟩
        by_cases hnew : q = M
        · have hmn := mxN_new (c := c) (k := k) (by rw [hcq0, hnew, hM])
          rw [← hM] at hown hmn hge
          have hsn := rowsK_snoc c M k
          rw [hmn.2] at hsn
          have HMN := Lib.hid hmn.1
          obtain ⟨oa, oc, rfl, hol, hom⟩ := hown.form
          unfold maxLen at hom
          rw [rowsK_length] at hol hown ⊢
          have hqq : ((q : Int) == (M : Int)) = true := by simp; omega
          have hMn : M < n := by omega
          have hqM1 : q < M + 1 := by omega
          have HOW := Lib.hid (hown.below (Below.alloc1 wa (.cells #[.slice none 0 0] 22))); have HBL := Lib.hid hbel; have HB2W := Lib.hid hb2w; have HSN := Lib.hid hsn; have HQ := Lib.hid hnew; have HC0 := Lib.hid hcq0; have HLO2 := Lib.hid hlo
          have HEN := Lib.hid hown.ends
          clear hown hbel hb2w hsn hmn hnew hcq0 hM hge hvv
          go_wp2_with (first
            | (at_builtin; (refine wp_appendLL _ rfl _ _ rfl w2.heap.size wa.heap.size (wa.alloc (.cells #[.slice none 0 0] 22)).heap.size wa.heap.size _ (.slice none 0 0) vs (rowsK c M k) [] rfl rfl (cell_lit1 _ _ _) (HOW.out) (Own.nil _ _) (by simp) (Nat.le_trans HLO2.out (by simp)) (by rw [rowsK_length]; omega) (Nat.le_trans HLO2.out (by simp)) ?_; intro v3 w3 hown3 hg3 hb3 _; rw [← HSN.out] at hown3; have hbel := (HBL.out.alloc HBL.out.size (.cells #[.slice none 0 0] 22)).trans (hb3.mono hlo2); have hW3 := (HB2W.out.alloc HB2W.out.size (.cells #[.slice none 0 0] 22)).trans hb3; obtain ⟨oa3, oc3, rfl, hl3, hm3⟩ := hown3.form; unfold maxLen at hm3; rw [rowsK_length] at hl3 hown3; rw [rowsK_length]; have hown := hown3; have HW := Lib.hid hW3; have hlo := hW3.size; have hqM := hqM1; have hcq0 := HC0.out; clear hown3 hg3 hb3 hW3; have hat := hown.at (by rw [rowsK_length]; omega); obtain ⟨gg, rfl, hg0, hg1, hcl, hfl⟩ := hat; have hcq := hcl q (by rw [rowsK_length]; omega); have hoq := hown.own q (by rw [rowsK_length]; omega); rw [rowsK_getD _ _ _ _ hqM] at hoq; have hset := rowsK_set (M := (M + 1)) hqM hcq0; have hrl := rowK_len c k q; have hh2 := fun w2 hg => hown.rowHead (i := q) (w1 := w3.alloc (.cells #[.int .i64 (k : Int)] 3)) (w2 := w2) (by rw [rowsK_length]; omega) (Below.alloc1 _ _) hg; have happ := fun w2 p' hp hg hw => hown.rowApp (i := q) (w1 := w3.alloc (.cells #[.int .i64 (k : Int)] 3)) (w2 := w2) (p' := p') (l := rowK c k q ++ [(k : Int)]) hlo (by rw [rowsK_length]; omega) (Below.alloc1 _ _) hp hg hw; rw [hset] at happ; have HH := Lib.hid hh2; have HAP := Lib.hid happ; have hrv : ∃ a n c, rowV (vs ++ [.slice none 0 0]) q = .slice a n c := hoq.form'; obtain ⟨ra, rn, rc, hrv⟩ := hrv; rw [hrv] at hcq hoq; have HOQ := Lib.hid (hoq.below (Below.alloc1 w3 (.cells #[.int .i64 (k : Int)] 3))); have HRV := Lib.hid hrv; have HOWN := Lib.hid hown; have HBE := Lib.hid hbel; have HRL := Lib.hid hrl; have HLO := Lib.hid hlo; have HQ0 := Lib.hid hcq0; have HG0 := Lib.hid hg0; clear hcl hfl hoq hset hrl hh2 happ hrv hown hbel hlo hcq0 hg0 hg1))
            | (at_builtin; (refine wp_appendW _ rfl _ _ rfl w2.heap.size w3.heap.size _ (rowK c k q) (k : Int) rfl rfl (cell_lit1 _ _ _) HOQ.out (by have := HRL.out; omega) (Nat.le_trans HLO.out (by simp)) ?_; intro p' w8 ho8 hg8 hb8 hw8; obtain ⟨px, py, pz, rfl⟩ := ho8.form'; have hg8' : (w3.alloc (.cells #[.int .i64 (k : Int)] 3)).grownBy w8 (rowV (vs ++ [.slice none 0 0]) q).ownBlock := (by rw [HRV.out]; exact hg8); have hw8' : ∀ k', (Value.slice px py pz).ownBlock = some k' → (rowV (vs ++ [.slice none 0 0]) q).ownBlock = some k' ∨ (w3.alloc (.cells #[.int .i64 (k : Int)] 3)).heap.size ≤ k' := (by rw [HRV.out]; exact hw8); have hh := HH.out _ hg8'; have hc8 := hh.1 q (by rw [rowsK_length]; omega); have hf8 := hh.2 q; rw [HRV.out] at hc8; have HN8 := Lib.hid (HAP.out w8 _ ho8 hg8' hw8'); have hb9 := ((HBE.out.alloc HBE.out.size (.cells #[.int .i64 (k : Int)] 3)).trans (hb8.mono hlo2)).setCell (p := ⟨gg, q, none⟩) (Nat.le_trans hlo2 HG0.out) (.slice px py pz); have HB9 := Lib.hid hb9; have hbX := (((HW.out.alloc HW.out.size (.cells #[.int .i64 (k : Int)] 3)).trans hb8).setCell (p := ⟨gg, q, none⟩) HG0.out (.slice px py pz)); have HX9 := Lib.hid hbX; clear hbX; clear ho8 hg8 hb8 hw8 hg8' hw8' hh hb9)))
          go_roundw
          case rel => exact ⟨k + 1, _, by omega, by go_num, by rw [HMN.out]; exact OwnLL.mono HN8.out (Nat.le_refl _) (by simp) (by simp), HX9.out, HB9.out⟩
          case measure => simp [intOf]; omega
        · have hmo := mxN_old (c := c) (k := k) (by rw [hcq0, ← hM]; omega)
          rw [← hM] at hown hmo hge
          have HMN := Lib.hid hmo
          have hqM : q < M := by omega
          have HW := Lib.hid hb2w
          obtain ⟨oa, oc, rfl, hol, hom⟩ := hown.form
          unfold maxLen at hom
          rw [rowsK_length] at hol hown ⊢
          have hqq : ((q : Int) == (M : Int)) = false := by simp; omega
          clear hmo hM hge hvv hb2w hnew
          have hat := hown.at (by rw [rowsK_length]; omega)
          obtain ⟨gg, rfl, hg0, hg1, hcl, hfl⟩ := hat
          have hcq := hcl q (by rw [rowsK_length]; omega)
          have hoq := hown.own q (by rw [rowsK_length]; omega)
          rw [rowsK_getD _ _ _ _ hqM] at hoq
          have hset := rowsK_set (M := M) hqM hcq0
          have hrl := rowK_len c k q
          have hh2 := fun w2 hg => hown.rowHead (i := q) (w1 := wa.alloc (.cells #[.int .i64 (k : Int)] 3)) (w2 := w2) (by rw [rowsK_length]; omega) (Below.alloc1 _ _) hg
          have happ := fun w2 p' hp hg hw => hown.rowApp (i := q) (w1 := wa.alloc (.cells #[.int .i64 (k : Int)] 3)) (w2 := w2) (p' := p') (l := rowK c k q ++ [(k : Int)]) hlo (by rw [rowsK_length]; omega) (Below.alloc1 _ _) hp hg hw
          rw [hset] at happ
          have HH := Lib.hid hh2; have HAP := Lib.hid happ
          have hrv : ∃ a n c, rowV vs q = .slice a n c := hoq.form'
          obtain ⟨ra, rn, rc, hrv⟩ := hrv
          rw [hrv] at hcq hoq
          have HOQ := Lib.hid (hoq.below (Below.alloc1 wa (.cells #[.int .i64 (k : Int)] 3)))
          have HRV := Lib.hid hrv; have HOWN := Lib.hid hown; have HBE := Lib.hid hbel; have HRL := Lib.hid hrl; have HLO := Lib.hid hlo; have HQ0 := Lib.hid hcq0; have HG0 := Lib.hid hg0
          clear hcl hfl hoq hset hrl hh2 happ hrv hown hbel hlo hcq0 hg0 hg1
          go_wp2_with (at_builtin; (refine wp_appendW _ rfl _ _ rfl w2.heap.size wa.heap.size _ (rowK c k q) (k : Int) rfl rfl (cell_lit1 _ _ _) HOQ.out (by have := HRL.out; omega) (Nat.le_trans HLO.out (by simp)) ?_; intro p' w8 ho8 hg8 hb8 hw8; obtain ⟨px, py, pz, rfl⟩ := ho8.form'; have hg8' : (wa.alloc (.cells #[.int .i64 (k : Int)] 3)).grownBy w8 (rowV vs q).ownBlock := (by rw [HRV.out]; exact hg8); have hw8' : ∀ k', (Value.slice px py pz).ownBlock = some k' → (rowV vs q).ownBlock = some k' ∨ (wa.alloc (.cells #[.int .i64 (k : Int)] 3)).heap.size ≤ k' := (by rw [HRV.out]; exact hw8); have hh := HH.out _ hg8'; have hc8 := hh.1 q (by rw [rowsK_length]; omega); have hf8 := hh.2 q; rw [HRV.out] at hc8; have HN8 := Lib.hid (HAP.out w8 _ ho8 hg8' hw8'); have hb9 := ((HBE.out.alloc HBE.out.size (.cells #[.int .i64 (k : Int)] 3)).trans (hb8.mono hlo2)).setCell (p := ⟨gg, q, none⟩) (Nat.le_trans hlo2 HG0.out) (.slice px py pz); have HB9 := Lib.hid hb9; have hbX := (((HW.out.alloc HW.out.size (.cells #[.int .i64 (k : Int)] 3)).trans hb8).setCell (p := ⟨gg, q, none⟩) HG0.out (.slice px py pz)); have HX9 := Lib.hid hbX; clear hbX; clear ho8 hg8 hb8 hw8 hg8' hw8' hh hb9))
          go_roundw
          case rel => exact ⟨k + 1, _, by omega, by go_num, by rw [HMN.out]; exact OwnLL.mono HN8.out (Nat.le_refl _) (by simp) (by simp), HX9.out, HB9.out⟩
          case measure => simp [intOf]; omega
      · obtain rfl : k = n := by omega
        obtain ⟨oa, oc, rfl, hol, hom⟩ := hown.form
        have HO := Lib.hid hown; have HBE := Lib.hid hbel
        clear hown hbel hb2w
        go_wp2
        go_ret2
        exact ⟨_, vs, rfl, HO.out.mono hlo2 (Nat.le_refl _) (Nat.le_refl _), HBE.out⟩

end Go.Proofs.Ytpanajnlkacmdaa
