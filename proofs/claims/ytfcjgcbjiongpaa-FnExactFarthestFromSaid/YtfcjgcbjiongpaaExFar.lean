/- FarthestFrom on both sides. -/
import Derived.Test.YtfcjgcbjiongpaaExDist
import Derived.Test.YtfcjgcbjiongpaaExFarM
import Derived.Test.YtfcjgcbjiongpaaCloseW
namespace Go.Proofs.Ytfcjgcbjiongpaa
open Go.RowKit
set_option linter.unusedSimpArgs false
set_option linter.unusedVariables false

def ok_FarthestFrom (t : List Int) : Bool := ok_ClosingWith t
def res_FarthestFrom (t : List Int) : List (List Int) := res_ClosingWith t
theorem len_FarthestFrom (t : List Int) : tot (res_FarthestFrom t) ≤ 1000000 ∧ ∀ i, i < (res_FarthestFrom t).length → ((res_FarthestFrom t).getD i []).length ≤ 1000000 := len_ClosingWith t

set_option maxHeartbeats 400000 in
theorem impl_FarthestFrom (t : List Int) (w : World) (u : Value) (h : Rd w u t) (m1 : t.length ≤ 1048576) : Calls Try.prog 28 #[u] w (GivesLL w (res_FarthestFrom t) (ok_FarthestFrom t)) := by
  have HC := Lib.hid (impl_ClosingWith t w u h m1)
  unfold res_FarthestFrom ok_FarthestFrom
  generalize res_ClosingWith t = R at *
  generalize ok_ClosingWith t = K at *
  obtain ⟨a1, c1, rfl, _⟩ := h
  go_enter Try.func28, Try.ntmps28
  go_wp2_with (go_at_call 53; ((with_reducible refine HC.out.mono ?_); rintro e w1 ⟨v, vs, rfl, ho, hb⟩; have HO := Lib.hid ho; have HB := Lib.hid hb; obtain ⟨a2, c2, rfl, _⟩ := ho.form; clear ho hb))
  go_ret2
  exact ⟨_, vs, rfl, HO.out, HB.out⟩

theorem far_eq {t : List Int} (gt : goodB t = true) (h0 : 0 < t.length) : ((allL (t.length / 2)).foldl (farS (distL t)) (0, [])).2 = closeL t 1 := by
  have h2 := (good_facts gt).1
  have h12 := good_len' gt
  have hp : ∀ q, 1 ≤ compsL t q := fun q => cnt_pos _ _ _ h0
  obtain ⟨q, hq, he⟩ := List.any_eq_true.1 (some_close gt h0)
  have he' : compsL t q = 1 := by unfold closeQ at he; exact of_decide_eq_true he
  have hd : distL t q = ((t.length / 2 : Nat) : Int) - 1 := by unfold distL; rw [he']; rfl
  have h1 : ∀ q ∈ allL (t.length / 2), distL t q ≤ ((t.length / 2 : Nat) : Int) - 1 := fun q _ => by have := hp q; unfold distL; omega
  have hz : (0 : Int) ≤ ((t.length / 2 : Nat) : Int) - 1 := by omega
  rw [farS_all (distL t) _ _ 0 [] h1 hz (.inr ⟨q, hq, hd⟩)]
  simp only [ite_self, List.nil_append]
  unfold closeL
  congr 1
  funext q
  unfold closeB distL
  rw [Bool.eq_iff_iff]
  simp only [decide_eq_true_eq, beq_iff_eq]
  omega

set_option maxRecDepth 100000 in
set_option maxHeartbeats 8000000 in
theorem spec_far_run (t : List Int) (gt : goodB t = true) (h0 : 0 < t.length) (w : World) (u : Value) (h : Rd w u t) (mm : t.length ≤ 1048576) :
    Calls Try.prog 27 #[u] w (GivesLL w (closeL t 1) true) := by
  rw [← far_eq gt h0]
  have hgood := ahGood_any u t w h mm
  rw [gt] at hgood
  obtain ⟨m, hm6, hm2⟩ : ∃ m, m ≤ 6 ∧ t.length = 2 * m := by
    have h1 := good_len' gt
    have h2 := (good_facts gt).1
    exact ⟨t.length / 2, by omega, by omega⟩
  rw [show t.length / 2 = m by omega]
  have hmc : ∀ k, k < (allL m).length → ∀ w u1 u2, Rd w u1 t → Rd w u2 ((allL m).getD k []) → Calls Try.prog 49 #[u1, u2] w fun e w' => e = .returned (.int .i64 (distL t ((allL m).getD k []))) ∧ Below w.heap.size w w' :=
    fun k hk w u1 u2 h1 h2 => exDistance_any t ((allL m).getD k []) gt (allL_good hm6 hk).1 (by rw [(allL_good hm6 hk).2, hm2]) w u1 u2 h1 h2
  have hah : ∀ w, Calls Try.prog 52 #[.int .i64 (m : Int), .int .i64 0] w (MadeLL w (allL m)) := fun w => ahAll_any 7 m 0 w (by omega) (by omega) hm6 (by omega)
  have hsh : (allL m).length ≤ 1000 := ahL_short (by omega) (by omega)
  generalize hdd : distL t = dd at *
  have HFT := Lib.hid (fun k => farS_take dd (allL m) (0, []) k)
  have hfl : (allL m).foldl (farS dd) (0, []) = ((allL m).take (allL m).length).foldl (farS dd) (0, []) := by rw [List.take_length]
  rw [hfl]
  clear hfl hdd
  generalize allL m = L at *
  have HFL : Hid (∀ k, ((L.take k).foldl (farS dd) (0, [])).2.length ≤ 1000) := fun k => Nat.le_trans (farS_len dd _ _) (by rw [List.length_take]; simp; omega)
  have HMC := Lib.hid hmc; have HAH := Lib.hid hah; have hh := h; have HG := Lib.hid hgood
  obtain ⟨au0, cu0, rfl, hx1, hx2, _⟩ := h
  obtain ⟨n, hn⟩ : ∃ n, n = t.length := ⟨_, rfl⟩
  rw [← hn] at hm2 hx1 hh HG h0 ⊢
  have HH := Lib.hid hh
  have HE : Hid ((n : Int) / 2 = (m : Int)) := by show (n : Int) / 2 = (m : Int); omega
  have hn12 : n ≤ 12 := by omega
  have hz : ((n : Int) == 0) = false := beq_eq_false_iff_ne.2 (by omega)
  unfold maxLen at hx2
  clear hmc hah gt hn hm2 hh hgood
  go_enter Try.func27, Try.ntmps27
  go_wp2_with (first
    | (go_at_call 34; ((with_reducible refine HG.out.mono ?_); rintro e w0 ⟨rfl, hb0⟩; have HB0 := Lib.hid hb0; clear hb0))
    | (go_at_call 52; rw [HE.out]; ((with_reducible refine (HAH.out _).mono ?_); rintro e w1 ⟨vu, us, rfl, hU, hb1⟩; obtain ⟨au, cu, rfl, hcu1, hcu2⟩ := hU.form; unfold maxLen at hcu2)))
  have hb10 := Below.step HB0.out hb1
  have hU := hU.mono HB0.out.size (Nat.le_refl _) (Nat.le_refl _)
  clear hb1
  go_loopw [4, 5, 22] (fun mo o i wr => ∃ (k : Nat) (vs : List Value), k ≤ L.length ∧ i = .int .i64 (k : Int) ∧ mo = .int .i64 ((L.take k).foldl (farS dd) (0, [])).1 ∧ OwnLL w.heap.size wr.heap.size wr o vs ((L.take k).foldl (farS dd) (0, [])).2 ∧ (∀ i, i < vs.length → ∃ j, j < k ∧ rowV vs i = rowV us j) ∧ OwnLL w.heap.size w1.heap.size wr (.slice au L.length cu) us L ∧ Away o w.heap.size w1.heap.size ∧ w1.heap.size ≤ wr.heap.size ∧ Below w.heap.size w wr) (fun _ _ i _ => L.length - (intOf i).toNat)
  case atStart => exact ⟨0, [], by omega, rfl, rfl, OwnLL.nil _ _ hb10.size, fun i hi => by simp at hi, hU, fun k hk => by simp [Value.ownBlock] at hk, Nat.le_refl _, hb10⟩
  case round =>
    obtain ⟨k, vs, hk, rfl, rfl, hown, hfrom, hUk, haw, hwk, hbel⟩ := hrel
    clear hU hb10
    generalize wr = wc at *
    by_cases hlt : k < L.length
    · obtain ⟨gu, rfl, hgu0, hgu1, hcell, _⟩ := hUk.at (by omega)
      have hck := hcell k hlt
      have hru := hUk.own k hlt
      have hft := HFT.out k hlt
      have hmk := HMC.out k hlt
      have hapt : ∀ i, i < vs.length → ∀ kk, (rowV us k).ownBlock = some kk → (rowV vs i).ownBlock ≠ some kk := by
        intro i hi kk hp
        obtain ⟨j, hj, e⟩ := hfrom i hi
        rw [e]
        exact hUk.apart k j hlt (by omega) (by omega) kk hp
      rw [hown.len] at hapt
      have hfl := HFL.out k
      generalize (L.take k).foldl (farS dd) (0, []) = S at *
      obtain ⟨M, O⟩ := S
      simp only at hown hapt hfl ⊢
      generalize L.getD k [] = q at *
      have hfs : farS dd (M, O) q = if M < dd q then (dd q, [q]) else if dd q = M then (M, O ++ [q]) else (M, O) := rfl
      rw [hfs] at hft
      clear hfs
      generalize dd q = D at *
      generalize hpe : rowV us k = pu at *
      obtain ⟨p1, p2, p3, rfl⟩ := hru.form'
      have HM2 := Lib.hid hmk; have HF2 := Lib.hid hft; have HAP := Lib.hid hapt; have HOL := Lib.hid hfl; have HRU := Lib.hid hru; have HO := Lib.hid hown; have HFR := Lib.hid hfrom; have HUK := Lib.hid hUk; have HAW := Lib.hid haw; have HBE := Lib.hid hbel; have HPE := Lib.hid hpe
      have hsz := hbel.size
      clear hcell hru hft hmk hapt hfl hown hfrom hUk haw hbel hpe
      by_cases hc1 : M < D
      · have HFN : Hid (OwnLL w.heap.size wc.heap.size wc (.slice none 0 0) [] []) := OwnLL.nil _ _ hsz
        go_wp2_with (first
          | (go_at_call 49; ((with_reducible refine (HM2.out _ _ _ (HH.out.below HBE.out) HRU.out.rd).mono ?_); rintro e w2 ⟨rfl, hb2⟩; have HB2 := Lib.hid hb2; have HO2 := Lib.hid ((HFN.out.below hb2).mono (Nat.le_refl _) hb2.size (Nat.le_refl _)); have z2 := hb2.size; clear hb2))
          | (at_builtin; refine wp_appendLS _ rfl (.tmp 36) (.tmp 38) rfl w.heap.size w2.heap.size w2.heap.size _ (.slice p1 p2 p3) _ [] q rfl rfl (cell_lit1 w2 (.slice p1 p2 p3) _) (OwnLL.below HO2.out (Below.alloc1 _ _)) (Own.below (Own.below HRU.out HB2.out) (Below.alloc1 _ _)) (fun i hi => absurd hi (Nat.not_lt_zero _)) (by simp) (by simp; omega) ?_; intro o' w6 hown6 hgr6 hbel6 hwh6; have hkeep := LL_round HO2.out (Below.alloc1 _ _) hgr6 hwh6; have HKP := Lib.hid hkeep; have HO6 := Lib.hid hown6; have HB6 := Lib.hid ((HBE.out.trans ((HB2.out.trans ((Below.alloc1 w2 (.cells #[.slice p1 p2 p3] 22)).mono z2)).mono hsz)).trans hbel6); clear hkeep hown6 hgr6 hbel6 hwh6))
        go_roundw
        case rel =>
          have hf2 := HF2.out
          rw [if_pos hc1] at hf2
          refine ⟨k + 1, _, by omega, by go_num, by rw [hf2], by rw [hf2]; exact HO6.out, fun i hi => ?_, HKP.out.1 _ _ _ _ _ (HUK.out.below HB2.out) (fun k hk => by simp [Value.ownBlock] at hk), HKP.out.2.1 _ _ (fun k hk => by simp [Value.ownBlock] at hk) (by omega), Nat.le_trans hwk (Nat.le_trans z2 HKP.out.2.2.2), HB6.out⟩
          obtain rfl : i = 0 := by simp at hi; omega
          exact ⟨k, by omega, HPE.out.symm⟩
        case measure => simp [intOf]; omega
      · by_cases hc2 : D = M
        · have hc' : (D == M) = true := by simp [hc2]
          go_wp2_with (first
            | (go_at_call 49; ((with_reducible refine (HM2.out _ _ _ (HH.out.below HBE.out) HRU.out.rd).mono ?_); rintro e w2 ⟨rfl, hb2⟩; have HB2 := Lib.hid hb2; have HO2 := Lib.hid ((HO.out.below hb2).mono (Nat.le_refl _) hb2.size (Nat.le_refl _)); have z2 := hb2.size; clear hb2))
            | (at_builtin; refine wp_appendLS _ rfl (.tmp 36) (.tmp 38) rfl w.heap.size w2.heap.size w2.heap.size _ (.slice p1 p2 p3) _ O q rfl rfl (cell_lit1 w2 (.slice p1 p2 p3) _) (OwnLL.below HO2.out (Below.alloc1 _ _)) (Own.below (Own.below HRU.out HB2.out) (Below.alloc1 _ _)) HAP.out (by have := HOL.out; omega) (by simp; omega) ?_; intro o' w6 hown6 hgr6 hbel6 hwh6; have hkeep := LL_round HO2.out (Below.alloc1 _ _) hgr6 hwh6; have HKP := Lib.hid hkeep; have HO6 := Lib.hid hown6; have HB6 := Lib.hid ((HBE.out.trans ((HB2.out.trans ((Below.alloc1 w2 (.cells #[.slice p1 p2 p3] 22)).mono z2)).mono hsz)).trans hbel6); clear hkeep hown6 hgr6 hbel6 hwh6))
          go_roundw
          case rel =>
            have hf2 := HF2.out
            rw [if_neg (Int.not_lt.2 hc1), if_pos hc2] at hf2
            refine ⟨k + 1, _, by omega, by go_num, by rw [hf2], by rw [hf2]; exact HO6.out, fun i hi => ?_, HKP.out.1 _ _ _ _ _ (HUK.out.below HB2.out) HAW.out, HKP.out.2.1 _ _ HAW.out (by omega), Nat.le_trans hwk (Nat.le_trans z2 HKP.out.2.2.2), HB6.out⟩
            by_cases e : i < vs.length
            · rw [rowV_snoc_lt e]
              obtain ⟨j, hj, e2⟩ := HFR.out i e
              exact ⟨j, by omega, e2⟩
            · obtain rfl : i = vs.length := by simp at hi; omega
              rw [rowV_snoc_eq]
              exact ⟨k, by omega, HPE.out.symm⟩
          case measure => simp [intOf]; omega
        · have hc' : (D == M) = false := by simp [hc2]
          go_wp2_with (go_at_call 49; ((with_reducible refine (HM2.out _ _ _ (HH.out.below HBE.out) HRU.out.rd).mono ?_); rintro e w2 ⟨rfl, hb2⟩; have HB2 := Lib.hid hb2; have HO2 := Lib.hid ((HO.out.below hb2).mono (Nat.le_refl _) hb2.size (Nat.le_refl _)); have z2 := hb2.size; clear hb2))
          go_roundw
          case rel =>
            have hf2 := HF2.out
            rw [if_neg (Int.not_lt.2 hc1), if_neg hc2] at hf2
            exact ⟨k + 1, vs, by omega, by go_num, by rw [hf2], by rw [hf2]; exact HO2.out, fun i hi => by obtain ⟨j, hj, e2⟩ := HFR.out i hi; exact ⟨j, by omega, e2⟩, HUK.out.below HB2.out, HAW.out, Nat.le_trans hwk z2, Below.step HBE.out HB2.out⟩
          case measure => simp [intOf]; omega
    · obtain rfl : k = L.length := by omega
      obtain ⟨ao, co, rfl, _⟩ := hown.form
      go_wp2
      go_ret2
      exact ⟨_, _, rfl, hown, hbel⟩

set_option maxHeartbeats 1000000 in
theorem spec_FarthestFrom (t : List Int) (w : World) (u : Value) (h : Rd w u t) (m1 : t.length ≤ 1048576) : Calls Try.prog 27 #[u] w (GivesLL w (res_FarthestFrom t) (ok_FarthestFrom t)) := by
  unfold res_FarthestFrom ok_FarthestFrom res_ClosingWith ok_ClosingWith
  have hgood := ahGood_any u t w h m1
  cases hg : goodB t with
  | true =>
    by_cases h0 : 0 < t.length
    · have e : (t.length == 0) = false := beq_eq_false_iff_ne.2 (by omega)
      rw [e]
      exact spec_far_run t hg h0 w u h m1
    · have e0 : t.length = 0 := by omega
      have e : (t.length == 0) = true := beq_iff_eq.2 e0
      rw [e]
      rw [hg] at hgood
      have HG := Lib.hid hgood
      obtain ⟨a1, c1, rfl, _⟩ := h
      rw [e0] at *
      clear hgood hg e e0 h0 m1
      simp only [Bool.not_true, Bool.and_false, Bool.false_eq_true, if_false]
      go_enter Try.func27, Try.ntmps27
      go_wp2_with (go_at_call 34; ((with_reducible refine HG.out.mono ?_); rintro e w0 ⟨rfl, hb0⟩; have HB0 := Lib.hid hb0; clear hb0))
      go_ret2
      exact ⟨_, [], rfl, OwnLL.nil _ _ HB0.out.size, HB0.out⟩
  | false =>
    rw [hg] at hgood
    have HG := Lib.hid hgood
    obtain ⟨a1, c1, rfl, _⟩ := h
    clear hgood hg m1
    simp only [Bool.false_and, Bool.false_eq_true, if_false]
    go_enter Try.func27, Try.ntmps27
    go_wp2_with (go_at_call 34; ((with_reducible refine HG.out.mono ?_); rintro e w0 ⟨rfl, hb0⟩; have HB0 := Lib.hid hb0; clear hb0))
    go_ret2
    exact ⟨_, [], rfl, OwnLL.nil _ _ HB0.out.size, HB0.out⟩

end Go.Proofs.Ytfcjgcbjiongpaa
