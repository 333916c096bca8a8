/- The model's foldings with a stamp more: spAdded; AddStamp. -/
import Derived.Test.YtnkkgbecdckigaaSpPut
import Derived.Test.YtnkkgbecdckigaaShift
namespace Go.Proofs.Ytnkkgbecdckigaa
open Go.RowKit
set_option linter.unusedSimpArgs false
set_option linter.unusedVariables false

theorem stack_small {l : List Int} (h : stackB l = true) : Small l := by
  have hf := stack_facts h
  refine ⟨by have := hf.2.1; omega, fun k hk => ?_⟩
  have := hf.2.2.1 k hk
  have := hf.2.1
  omega
theorem addRev_mem {l : List Int} : ∀ (k : Nat), ∀ r ∈ addRev l k, ∃ j, j < k ∧ r = insL l j
  | 0, r, h => by simp [addRev] at h
  | k + 1, r, h => by
    unfold addRev at h
    split at h
    · rcases List.mem_cons.1 h with rfl | h
      · exact ⟨k, by omega, rfl⟩
      · obtain ⟨j, h1, h2⟩ := addRev_mem k r h
        exact ⟨j, by omega, h2⟩
    · obtain ⟨j, h1, h2⟩ := addRev_mem k r h
      exact ⟨j, by omega, h2⟩
theorem addRev_get {l : List Int} {k i : Nat} (h : i < (addRev l k).length) : ∃ j, j < k ∧ (addRev l k).getD i [] = insL l j := by
  rw [show (addRev l k).getD i [] = (addRev l k)[i] by simp [List.getD, h]]
  exact addRev_mem k _ (List.getElem_mem h)
theorem putL_front {l : List Int} (hs : ∀ k, k < l.length → 0 ≤ l.getD k 0 ∧ l.getD k 0 < l.length) {k : Nat} (hk : k ≤ l.length) : putK (addRev l k) (insL l k) = 0 ∧ putL (addRev l k) (insL l k) = insL l k :: addRev l k := by
  have e : putK (addRev l k) (insL l k) = 0 := by
    refine putK_zero ?_
    by_cases h0 : (addRev l k).length = 0
    · exact .inl h0
    · right
      obtain ⟨j, h1, h2⟩ := addRev_get (l := l) (k := k) (i := 0) (by omega)
      rw [h2]
      have := insL_less hs h1 hk
      omega
  exact ⟨e, by unfold putL; rw [e]; rfl⟩
theorem addRev_yes {l : List Int} {k : Nat} (h : foldB (insL l k) = true) : addRev l (k + 1) = insL l k :: addRev l k := by rw [addRev, if_pos h]
theorem addRev_no {l : List Int} {k : Nat} (h : foldB (insL l k) = false) : addRev l (k + 1) = addRev l k := by rw [addRev, h, if_neg (by simp)]

/-- a slice from a place on -/
theorem Rd.from' {w : World} {b off c n : Nat} {l : List Int} (h : Rd w (.slice (some ⟨b, off, none⟩) n c) l) (k : Nat) (hk : k < l.length) : Rd w (.slice (some ⟨b, off + k, none⟩) (l.length - k) (c - k)) (l.drop k) := by
  obtain ⟨a, c', hv, h1, h2, _, h3⟩ := h
  simp only [Value.slice.injEq] at hv
  obtain ⟨rfl, rfl, rfl⟩ := hv
  have hlen : (l.drop k).length = l.length - k := by rw [List.length_drop]
  refine ⟨_, c - k, by rw [hlen], by omega, by omega, by simp, .inr ?_⟩
  rcases h3 with rfl | ⟨b', off', e, hc⟩
  · simp at hk
  · simp only [Option.some.injEq, Addr.mk.injEq, and_true] at e
    obtain ⟨rfl, rfl⟩ := e
    refine ⟨b, off + k, rfl, fun j hj => ?_⟩
    rw [Nat.add_assoc, hc (k + j) (by omega)]
    simp [List.getD]

theorem OwnLL.ap_new {lo hi B : Nat} {w w2 : World} {v p : Value} {vs : List Value} {ls : List (List Int)} {l : List Int} (h : OwnLL lo hi w v vs ls) (hp : Own B w2 p l) (hB : hi ≤ B) : ∀ i, i < ls.length → ∀ k, p.ownBlock = some k → (rowV vs i).ownBlock ≠ some k := by
  intro i hi q hq hq'
  have h1 := h.inr i hi q hq'
  have h2 := hp.lt q hq
  omega

set_option maxHeartbeats 4000000 in
set_option maxRecDepth 100000 in
theorem spAdded_any (v : Value) (l : List Int) (w : World) (h : Rd w v l) (hs : stackB l = true) (h7 : l.length ≤ 7) :
    Calls Try.prog 49 #[v] w (MadeLL w (addedL l)) := by
  rw [← addRev_all]
  have hst := stack_facts hs
  have HSM := Lib.hid (fun k => stack_small (insL_stack (p := k) hs h7))
  have HIS := Lib.hid (fun k => insL_stack (p := k) hs h7)
  have HPF := Lib.hid (fun k (hk : k ≤ l.length) => putL_front (l := l) hst.2.2.1 hk)
  have HGET := Lib.hid (fun k i (hi : i < (addRev l k).length) => addRev_get hi)
  have HLEN : Hid (∀ k, (addRev l k).length ≤ k) := addRev_len l
  obtain ⟨b, off, c, rfl, hlc, hcm, _⟩ := h.at (by have := hst.1; omega)
  unfold maxLen at hcm
  have H := Lib.hid h
  have hn1 := hst.1
  have HNE : Hid (∀ k, l.take k ++ [(l.length : Int)] ++ l.drop k = insL l k) := fun k => by unfold insL; rw [List.append_assoc]; rfl
  clear hst hs h
  go_enter Try.func49, Try.ntmps49
  go_wp2
  go_loopw [3, 4] (fun o i wr => ∃ (k : Nat) (vs : List Value), k ≤ l.length + 1 ∧ i = .int .i64 k ∧ OwnLL w.heap.size wr.heap.size wr o vs (addRev l k) ∧ Below w.heap.size w wr) (fun _ i _ => l.length + 1 - (intOf i).toNat)
  case atStart => exact ⟨0, [], by omega, rfl, OwnLL.nil _ _ (Nat.le_refl _), Below.refl _ _⟩
  case round =>
    obtain ⟨k, vs, hk, rfl, hown, hbel⟩ := hrel
    generalize wr = wc at *
    by_cases hlt : k ≤ l.length
    · have hsz := hbel.size
      have HT := Lib.hid ((H.out.below hbel).take' k hlt)
      have HO := Lib.hid hown; have HBE := Lib.hid hbel
      have HPK := Lib.hid (HPF.out k hlt)
      have hlk : (l.take k).length = k := by rw [List.length_take]; omega
      have HLK := Lib.hid hlk
      have hdk : (l.drop k).length = l.length - k := by rw [List.length_drop]
      have HDK := Lib.hid hdk
      have HAY := Lib.hid (@addRev_yes l k); have HAN := Lib.hid (@addRev_no l k)
      have HSMR : Hid (∀ i, i < (addRev l k).length → Small ((addRev l k).getD i [])) := fun i hi => by obtain ⟨j, _, e⟩ := HGET.out k i hi; rw [e]; exact HSM.out j
      have HI := Lib.hid (HIS.out k); have HSK := Lib.hid (HSM.out k); have HE := Lib.hid (HNE.out k)
      have HLN := Lib.hid (HLEN.out k)
      have hib := fun v w h => spIs_any v (insL l k) w h HI.out
      clear hown hbel hlk hdk
      have hcalls := Lib.hid hib; clear hib
      by_cases hkl : k < l.length
      · have hck : ¬ c = k := by omega
        have HD := Lib.hid ((H.out.below HBE.out).from' k hkl)
        cases hM : foldB (insL l k) with
        | true =>
          rw [hM] at hcalls
          have HA := Lib.hid (HAY.out hM); clear hM
          go_wp2_with (first
            | (go_at_call 67; ((with_reducible refine (l1Own_any _ (l.take k) _ HT.out (by rw [HLK.out]; omega)).mono ?_); rintro e w1 ⟨v1, rfl, ho1, hb1⟩; have HO1 := Lib.hid ho1; have HB1 := Lib.hid hb1; clear ho1 hb1))
            | (at_builtin; refine wp_append _ rfl (.tmp 20) (.tmp 23) rfl wc.heap.size v2 (.slice (some ⟨b, off + k, none⟩) (l.length - k) (c - k)) (l.take k ++ [(l.length : Int)]) (l.drop k) rfl rfl HO2.out (HD.out.below HB2.out) (by rw [List.length_append, HLK.out, HDK.out]; simp; omega) HB2.out.size ?_; intro v3 w3 ho3 hg3 hb3; rw [HE.out] at ho3; have HO3 := Lib.hid ho3; have HB3 := Lib.hid (HB2.out.trans hb3); clear ho3 hg3 hb3)
            | (at_builtin; refine wp_append _ rfl (.tmp 15) (.tmp 18) rfl wc.heap.size v1 _ (l.take k) [(l.length : Int)] rfl rfl (HO1.out.below (Below.alloc1 _ _)) (Own.lit1 _ w1 _ (Nat.le_refl _)).rd (by rw [HLK.out]; simp; omega) (by have := HB1.out.size; simp; omega) ?_; intro v2 w2 ho2 hg2 hb2; have HO2 := Lib.hid ho2; have HB2 := Lib.hid (chain1 (Below.refl wc.heap.size wc) (Nat.le_refl _) HB1.out hb2); clear ho2 hg2 hb2)
            | (go_at_call 35; ((with_reducible refine (hcalls.out _ _ HO3.out.rd).mono ?_); rintro e w4 ⟨rfl, hb4⟩; have HO4 := Lib.hid (HO3.out.below hb4); have HB4 := Lib.hid (Below.step HB3.out hb4); clear hb4))
            | (go_at_call 45; ((with_reducible refine (spPut_any w.heap.size wc.heap.size _ v3 vs (addRev l k) (insL l k) w4 (HO.out.below HB4.out) (HO4.out.mono hsz) (by have := HB4.out.size; omega) (HO.out.ap_new HO4.out (Nat.le_refl _)) (by have := HLN.out; omega) HSMR.out HSK.out).mono ?_); rintro e w5 ⟨v5, rfl, ho5, _, hb5⟩; have HO5 := Lib.hid ho5; have HB5 := Lib.hid (Below.step HB4.out hb5); clear ho5 hb5))
            | fail)
          go_roundw
          case rel => exact ⟨k + 1, _, by omega, by go_num, by rw [HA.out, ← HPK.out.2]; exact HO5.out, Below.step HBE.out HB5.out⟩
          case measure => simp [intOf]; omega
        | false =>
          rw [hM] at hcalls
          have HA := Lib.hid (HAN.out hM); clear hM
          go_wp2_with (first
            | (go_at_call 67; ((with_reducible refine (l1Own_any _ (l.take k) _ HT.out (by rw [HLK.out]; omega)).mono ?_); rintro e w1 ⟨v1, rfl, ho1, hb1⟩; have HO1 := Lib.hid ho1; have HB1 := Lib.hid hb1; clear ho1 hb1))
            | (at_builtin; refine wp_append _ rfl (.tmp 20) (.tmp 23) rfl wc.heap.size v2 (.slice (some ⟨b, off + k, none⟩) (l.length - k) (c - k)) (l.take k ++ [(l.length : Int)]) (l.drop k) rfl rfl HO2.out (HD.out.below HB2.out) (by rw [List.length_append, HLK.out, HDK.out]; simp; omega) HB2.out.size ?_; intro v3 w3 ho3 hg3 hb3; rw [HE.out] at ho3; have HO3 := Lib.hid ho3; have HB3 := Lib.hid (HB2.out.trans hb3); clear ho3 hg3 hb3)
            | (at_builtin; refine wp_append _ rfl (.tmp 15) (.tmp 18) rfl wc.heap.size v1 _ (l.take k) [(l.length : Int)] rfl rfl (HO1.out.below (Below.alloc1 _ _)) (Own.lit1 _ w1 _ (Nat.le_refl _)).rd (by rw [HLK.out]; simp; omega) (by have := HB1.out.size; simp; omega) ?_; intro v2 w2 ho2 hg2 hb2; have HO2 := Lib.hid ho2; have HB2 := Lib.hid (chain1 (Below.refl wc.heap.size wc) (Nat.le_refl _) HB1.out hb2); clear ho2 hg2 hb2)
            | (go_at_call 35; ((with_reducible refine (hcalls.out _ _ HO3.out.rd).mono ?_); rintro e w4 ⟨rfl, hb4⟩; have HO4 := Lib.hid (HO3.out.below hb4); have HB4 := Lib.hid (Below.step HB3.out hb4); clear hb4))
            | fail)
          go_roundw
          case rel => exact ⟨k + 1, vs, by omega, by go_num, by rw [HA.out]; exact (HO.out.below HB4.out).mono (Nat.le_refl _) HB4.out.size (Nat.le_refl _), Below.step HBE.out HB4.out⟩
          case measure => simp [intOf]; omega
      · have hk2 : k = l.length := by omega
        have HD0 : Hid (Rd wc (.slice (some ⟨b, off, none⟩) 0 0) (l.drop k) ∧ Rd wc (.slice (some ⟨b, off + k, none⟩) (l.length - k) (c - k)) (l.drop k)) := by
          rw [show l.drop k = [] from List.drop_of_length_le (by omega), show l.length - k = 0 by omega]
          exact ⟨⟨_, 0, rfl, Nat.le_refl _, by unfold maxLen; omega, by simp, .inl rfl⟩, ⟨_, c - k, rfl, by simp, by unfold maxLen; omega, by simp, .inl rfl⟩⟩
        clear hk2
        by_cases hck : c = k
        · obtain rfl : c = k := hck
          have HD := Lib.hid HD0.out.1
          cases hM : foldB (insL l c) with
          | true =>
            rw [hM] at hcalls
            have HA := Lib.hid (HAY.out hM); clear hM
            go_wp2_with (first
              | (go_at_call 67; ((with_reducible refine (l1Own_any _ (l.take c) _ HT.out (by rw [HLK.out]; omega)).mono ?_); rintro e w1 ⟨v1, rfl, ho1, hb1⟩; have HO1 := Lib.hid ho1; have HB1 := Lib.hid hb1; clear ho1 hb1))
              | (at_builtin; refine wp_append _ rfl (.tmp 20) (.tmp 23) rfl wc.heap.size v2 (.slice (some ⟨b, off, none⟩) (0) (0)) (l.take c ++ [(l.length : Int)]) (l.drop c) rfl rfl HO2.out (HD.out.below HB2.out) (by rw [List.length_append, HLK.out, HDK.out]; simp; omega) HB2.out.size ?_; intro v3 w3 ho3 hg3 hb3; rw [HE.out] at ho3; have HO3 := Lib.hid ho3; have HB3 := Lib.hid (HB2.out.trans hb3); clear ho3 hg3 hb3)
              | (at_builtin; refine wp_append _ rfl (.tmp 15) (.tmp 18) rfl wc.heap.size v1 _ (l.take c) [(l.length : Int)] rfl rfl (HO1.out.below (Below.alloc1 _ _)) (Own.lit1 _ w1 _ (Nat.le_refl _)).rd (by rw [HLK.out]; simp; omega) (by have := HB1.out.size; simp; omega) ?_; intro v2 w2 ho2 hg2 hb2; have HO2 := Lib.hid ho2; have HB2 := Lib.hid (chain1 (Below.refl wc.heap.size wc) (Nat.le_refl _) HB1.out hb2); clear ho2 hg2 hb2)
              | (go_at_call 35; ((with_reducible refine (hcalls.out _ _ HO3.out.rd).mono ?_); rintro e w4 ⟨rfl, hb4⟩; have HO4 := Lib.hid (HO3.out.below hb4); have HB4 := Lib.hid (Below.step HB3.out hb4); clear hb4))
              | (go_at_call 45; ((with_reducible refine (spPut_any w.heap.size wc.heap.size _ v3 vs (addRev l c) (insL l c) w4 (HO.out.below HB4.out) (HO4.out.mono hsz) (by have := HB4.out.size; omega) (HO.out.ap_new HO4.out (Nat.le_refl _)) (by have := HLN.out; omega) HSMR.out HSK.out).mono ?_); rintro e w5 ⟨v5, rfl, ho5, _, hb5⟩; have HO5 := Lib.hid ho5; have HB5 := Lib.hid (Below.step HB4.out hb5); clear ho5 hb5))
              | fail)
            go_roundw
            case rel => exact ⟨c + 1, _, by omega, by go_num, by rw [HA.out, ← HPK.out.2]; exact HO5.out, Below.step HBE.out HB5.out⟩
            case measure => simp [intOf]; omega
          | false =>
            rw [hM] at hcalls
            have HA := Lib.hid (HAN.out hM); clear hM
            go_wp2_with (first
              | (go_at_call 67; ((with_reducible refine (l1Own_any _ (l.take c) _ HT.out (by rw [HLK.out]; omega)).mono ?_); rintro e w1 ⟨v1, rfl, ho1, hb1⟩; have HO1 := Lib.hid ho1; have HB1 := Lib.hid hb1; clear ho1 hb1))
              | (at_builtin; refine wp_append _ rfl (.tmp 20) (.tmp 23) rfl wc.heap.size v2 (.slice (some ⟨b, off, none⟩) (0) (0)) (l.take c ++ [(l.length : Int)]) (l.drop c) rfl rfl HO2.out (HD.out.below HB2.out) (by rw [List.length_append, HLK.out, HDK.out]; simp; omega) HB2.out.size ?_; intro v3 w3 ho3 hg3 hb3; rw [HE.out] at ho3; have HO3 := Lib.hid ho3; have HB3 := Lib.hid (HB2.out.trans hb3); clear ho3 hg3 hb3)
              | (at_builtin; refine wp_append _ rfl (.tmp 15) (.tmp 18) rfl wc.heap.size v1 _ (l.take c) [(l.length : Int)] rfl rfl (HO1.out.below (Below.alloc1 _ _)) (Own.lit1 _ w1 _ (Nat.le_refl _)).rd (by rw [HLK.out]; simp; omega) (by have := HB1.out.size; simp; omega) ?_; intro v2 w2 ho2 hg2 hb2; have HO2 := Lib.hid ho2; have HB2 := Lib.hid (chain1 (Below.refl wc.heap.size wc) (Nat.le_refl _) HB1.out hb2); clear ho2 hg2 hb2)
              | (go_at_call 35; ((with_reducible refine (hcalls.out _ _ HO3.out.rd).mono ?_); rintro e w4 ⟨rfl, hb4⟩; have HO4 := Lib.hid (HO3.out.below hb4); have HB4 := Lib.hid (Below.step HB3.out hb4); clear hb4))
              | fail)
            go_roundw
            case rel => exact ⟨c + 1, vs, by omega, by go_num, by rw [HA.out]; exact (HO.out.below HB4.out).mono (Nat.le_refl _) HB4.out.size (Nat.le_refl _), Below.step HBE.out HB4.out⟩
            case measure => simp [intOf]; omega
        · have HD := Lib.hid HD0.out.2
          cases hM : foldB (insL l k) with
          | true =>
            rw [hM] at hcalls
            have HA := Lib.hid (HAY.out hM); clear hM
            go_wp2_with (first
              | (go_at_call 67; ((with_reducible refine (l1Own_any _ (l.take k) _ HT.out (by rw [HLK.out]; omega)).mono ?_); rintro e w1 ⟨v1, rfl, ho1, hb1⟩; have HO1 := Lib.hid ho1; have HB1 := Lib.hid hb1; clear ho1 hb1))
              | (at_builtin; refine wp_append _ rfl (.tmp 20) (.tmp 23) rfl wc.heap.size v2 (.slice (some ⟨b, off + k, none⟩) (l.length - k) (c - k)) (l.take k ++ [(l.length : Int)]) (l.drop k) rfl rfl HO2.out (HD.out.below HB2.out) (by rw [List.length_append, HLK.out, HDK.out]; simp; omega) HB2.out.size ?_; intro v3 w3 ho3 hg3 hb3; rw [HE.out] at ho3; have HO3 := Lib.hid ho3; have HB3 := Lib.hid (HB2.out.trans hb3); clear ho3 hg3 hb3)
              | (at_builtin; refine wp_append _ rfl (.tmp 15) (.tmp 18) rfl wc.heap.size v1 _ (l.take k) [(l.length : Int)] rfl rfl (HO1.out.below (Below.alloc1 _ _)) (Own.lit1 _ w1 _ (Nat.le_refl _)).rd (by rw [HLK.out]; simp; omega) (by have := HB1.out.size; simp; omega) ?_; intro v2 w2 ho2 hg2 hb2; have HO2 := Lib.hid ho2; have HB2 := Lib.hid (chain1 (Below.refl wc.heap.size wc) (Nat.le_refl _) HB1.out hb2); clear ho2 hg2 hb2)
              | (go_at_call 35; ((with_reducible refine (hcalls.out _ _ HO3.out.rd).mono ?_); rintro e w4 ⟨rfl, hb4⟩; have HO4 := Lib.hid (HO3.out.below hb4); have HB4 := Lib.hid (Below.step HB3.out hb4); clear hb4))
              | (go_at_call 45; ((with_reducible refine (spPut_any w.heap.size wc.heap.size _ v3 vs (addRev l k) (insL l k) w4 (HO.out.below HB4.out) (HO4.out.mono hsz) (by have := HB4.out.size; omega) (HO.out.ap_new HO4.out (Nat.le_refl _)) (by have := HLN.out; omega) HSMR.out HSK.out).mono ?_); rintro e w5 ⟨v5, rfl, ho5, _, hb5⟩; have HO5 := Lib.hid ho5; have HB5 := Lib.hid (Below.step HB4.out hb5); clear ho5 hb5))
              | fail)
            go_roundw
            case rel => exact ⟨k + 1, _, by omega, by go_num, by rw [HA.out, ← HPK.out.2]; exact HO5.out, Below.step HBE.out HB5.out⟩
            case measure => simp [intOf]; omega
          | false =>
            rw [hM] at hcalls
            have HA := Lib.hid (HAN.out hM); clear hM
            go_wp2_with (first
              | (go_at_call 67; ((with_reducible refine (l1Own_any _ (l.take k) _ HT.out (by rw [HLK.out]; omega)).mono ?_); rintro e w1 ⟨v1, rfl, ho1, hb1⟩; have HO1 := Lib.hid ho1; have HB1 := Lib.hid hb1; clear ho1 hb1))
              | (at_builtin; refine wp_append _ rfl (.tmp 20) (.tmp 23) rfl wc.heap.size v2 (.slice (some ⟨b, off + k, none⟩) (l.length - k) (c - k)) (l.take k ++ [(l.length : Int)]) (l.drop k) rfl rfl HO2.out (HD.out.below HB2.out) (by rw [List.length_append, HLK.out, HDK.out]; simp; omega) HB2.out.size ?_; intro v3 w3 ho3 hg3 hb3; rw [HE.out] at ho3; have HO3 := Lib.hid ho3; have HB3 := Lib.hid (HB2.out.trans hb3); clear ho3 hg3 hb3)
              | (at_builtin; refine wp_append _ rfl (.tmp 15) (.tmp 18) rfl wc.heap.size v1 _ (l.take k) [(l.length : Int)] rfl rfl (HO1.out.below (Below.alloc1 _ _)) (Own.lit1 _ w1 _ (Nat.le_refl _)).rd (by rw [HLK.out]; simp; omega) (by have := HB1.out.size; simp; omega) ?_; intro v2 w2 ho2 hg2 hb2; have HO2 := Lib.hid ho2; have HB2 := Lib.hid (chain1 (Below.refl wc.heap.size wc) (Nat.le_refl _) HB1.out hb2); clear ho2 hg2 hb2)
              | (go_at_call 35; ((with_reducible refine (hcalls.out _ _ HO3.out.rd).mono ?_); rintro e w4 ⟨rfl, hb4⟩; have HO4 := Lib.hid (HO3.out.below hb4); have HB4 := Lib.hid (Below.step HB3.out hb4); clear hb4))
              | fail)
            go_roundw
            case rel => exact ⟨k + 1, vs, by omega, by go_num, by rw [HA.out]; exact (HO.out.below HB4.out).mono (Nat.le_refl _) HB4.out.size (Nat.le_refl _), Below.step HBE.out HB4.out⟩
            case measure => simp [intOf]; omega
    · obtain rfl : k = l.length + 1 := by omega
      obtain ⟨ao, co, rfl, _⟩ := hown.form
      go_wp2
      go_ret
      exact ⟨_, _, rfl, hown, hbel⟩

set_option maxHeartbeats 1000000 in
theorem spec_AddStamp (l : List Int) (w : World) (u : Value) (h : Rd w u l) (m : l.length ≤ 1048576) : Calls Try.prog 29 #[u] w (GivesLL w (res_AddStamp l) (ok_AddStamp l)) := by
  unfold res_AddStamp ok_AddStamp
  have HP := Lib.hid (spStack_any u l w h)
  cases hg : stackB l with
  | true =>
    rw [hg] at HP
    have HF := Lib.hid (spIs_any u l w h hg)
    have h8 := stack_len hg
    obtain ⟨a0, c0, rfl, hlc, hcm, hna, hrd⟩ := h
    have H : Hid (Rd w (.slice a0 l.length c0) l) := ⟨a0, c0, rfl, hlc, hcm, hna, hrd⟩
    unfold maxLen at hcm
    rw [Bool.true_and]
    clear hna hrd
    cases hf : foldB l with
    | true =>
      rw [hf] at HF
      rw [Bool.true_and]
      clear hf
      by_cases h7 : l.length = 8
      · have e : (!decide (l.length = 8)) = false := by simp [h7]
        rw [e]
        have e2 : ((l.length : Int) == 8) = true := by rw [h7]; rfl
        clear e hg h7
        simp only [Bool.false_eq_true, if_false]
        go_enter Try.func29, Try.ntmps29
        go_wp2_with (first
          | (go_at_call 34; refine HP.out.mono ?_; rintro e w1 ⟨rfl, rfl⟩)
          | (go_at_call 35; refine HF.out.mono ?_; rintro e w1 ⟨rfl, hb⟩))
        go_ret2
        exact ⟨_, [], rfl, (OwnLL.nil _ _ (Nat.le_refl _)).mono hb.size (Nat.le_refl _) (Nat.le_refl _), hb⟩
      · have e : (!decide (l.length = 8)) = true := by simp [h7]
        rw [e]
        have e2 : ((l.length : Int) == 8) = false := by
          have : ¬ (l.length : Int) = 8 := by omega
          simpa using this
        have HA := Lib.hid (fun w h => spAdded_any (.slice a0 l.length c0) l w h hg (by omega))
        clear e hg h7
        simp only [if_true]
        go_enter Try.func29, Try.ntmps29
        go_wp2_with (first
          | (go_at_call 34; refine HP.out.mono ?_; rintro e w1 ⟨rfl, rfl⟩)
          | (go_at_call 35; refine HF.out.mono ?_; rintro e w1 ⟨rfl, hb⟩; have HB := Lib.hid hb; clear hb)
          | (go_at_call 49; refine (HA.out _ (H.out.below HB.out)).mono ?_; rintro e w2 ⟨v2, vs, rfl, ho2, hb2⟩))
        go_ret2
        exact ⟨_, vs, rfl, ho2.mono HB.out.size (Nat.le_refl _) (Nat.le_refl _), Below.step HB.out hb2⟩
    | false =>
      rw [hf] at HF
      rw [Bool.false_and]
      clear hf hg
      simp only [Bool.false_eq_true, if_false]
      go_enter Try.func29, Try.ntmps29
      go_wp2_with (first
        | (go_at_call 34; refine HP.out.mono ?_; rintro e w1 ⟨rfl, rfl⟩)
        | (go_at_call 35; refine HF.out.mono ?_; rintro e w1 ⟨rfl, hb⟩))
      go_ret2
      exact ⟨_, [], rfl, (OwnLL.nil _ _ (Nat.le_refl _)).mono hb.size (Nat.le_refl _) (Nat.le_refl _), hb⟩
  | false =>
    rw [hg] at HP
    clear hg h
    rw [Bool.false_and, Bool.false_and]
    simp only [Bool.false_eq_true, if_false]
    go_enter Try.func29, Try.ntmps29
    go_wp2_with (go_at_call 34; refine HP.out.mono ?_; rintro e w1 ⟨rfl, rfl⟩)
    go_ret2
    exact ⟨_, [], rfl, OwnLL.nil _ _ (Nat.le_refl _), Below.refl _ _⟩

end Go.Proofs.Ytnkkgbecdckigaa
