/- The program's crosses. -/
import Derived.Test.YtnkkgbecdckigacPaired
namespace Go.Proofs.Ytnkkgbecdckigac
open Go.RowKit Go.Maps
set_option linter.unusedSimpArgs false
set_option linter.unusedVariables false

theorem Own.cut {B g n c : Nat} {w : World} {l : List Int} (h : Own B w (.slice (some ⟨g, 0, none⟩) n c) l) (k : Nat) (hk : k ≤ n) : Own B w (.slice (some ⟨g, 0, none⟩) k c) (l.take k) := by
  rcases h.2 with ⟨h0, _⟩ | ⟨g', cap, cur, hv, hB, hg, hnc, hcm, hcs, ht⟩
  · cases h0
  · simp only [Value.slice.injEq, Option.some.injEq, Addr.mk.injEq, and_true, true_and] at hv
    obtain ⟨rfl, hn, rfl⟩ := hv
    have hl : (l.take k).length = k := by rw [List.length_take]; omega
    refine ⟨by rw [ints_length, hl]; omega, .inr ⟨g, c, cur, by rw [hl], hB, hg, by omega, hcm, hcs, ?_⟩⟩
    rw [hl, Nat.mul_one]
    rw [Nat.mul_one] at ht
    have e : cur.toList.take k = (cur.toList.take l.length).take k := by rw [List.take_take, Nat.min_eq_left (by omega)]
    rw [e, ht]
    unfold ints
    rw [List.map_take]
theorem canc_cons (O : List Int) (x : Int) (r : List Int) : canc O (x :: r) = if topIs O x then canc (dropTop O) r else canc (O ++ [x]) r := by rw [canc]
theorem drop_at {r : List Int} {k : Nat} (h : k < r.length) : r.drop k = r.getD k 0 :: r.drop (k + 1) := by
  rw [List.drop_eq_getElem_cons h]
  simp [List.getD, h]
set_option maxHeartbeats 4000000 in
set_option maxRecDepth 100000 in
theorem frCrosses_any (u d : List Int) (c : Int) (w : World) (hu : u.length ≤ 6) (hd : d.length ≤ 6) :
    Calls Try.prog 73 #[.agg (frC u d c)] w fun e w' => e = .returned (.bool (!decide ((canc [] (roundL u d)).length = 0))) ∧ Below w.heap.size w w' := by
  have HU := Lib.hid hu; have HD := Lib.hid hd
  have HRO := Lib.hid (fun w => round_any u d c w hu hd)
  have hrl : (roundL u d).length ≤ 12 := by unfold roundL; rw [List.length_append, List.length_reverse]; omega
  have HF := Lib.hid (show FrIn (w.alloc (.cells (frC u d c) 66)) w.heap.size u d c from heap_alloc_new w _)
  have HB := Lib.hid (show Below w.heap.size w (w.alloc (.cells (frC u d c) 66)) from Below.alloc1 w _)
  generalize roundL u d = r at *
  obtain ⟨F, hF⟩ : ∃ F, canc [] r = F := ⟨_, rfl⟩
  rw [hF]
  have HR : Hid (canc [] (r.drop 0) = F) := hF
  obtain ⟨bF, hbF⟩ : ∃ b, (!decide (F.length = 0)) = b := ⟨_, rfl⟩
  rw [hbF]
  have HBF := Lib.hid hbF
  clear hu hd hF hbF
  go_enter Try.func73, Try.ntmps73
  go_wp2_with (first
    | (with_reducible refine wp_loadFr rfl (.tmp 1) rfl w.heap.size u d c HU.out HD.out rfl HF.out ?_)
    | (go_at_call 91; ((refine (HRO.out _).mono ?_); rintro e w1 ⟨v1, rfl, ho1, hb1⟩; obtain ⟨a1, c1, rfl, hx1, hx2⟩ := ho1.form; unfold maxLen at hx2; have HO1 := Lib.hid ho1; have HB1 := Lib.hid (Below.step HB.out hb1); have hs1 := hb1.size; simp only [World.size_alloc] at hs1; clear ho1 hb1)))
  go_loopw [3, 10] (fun o i wr => ∃ (k : Nat) (O : List Int), k ≤ r.length ∧ i = .int .i64 k ∧ O.length ≤ k ∧ Hid (canc O (r.drop k) = F) ∧ Own w1.heap.size wr o O ∧ Below w1.heap.size w1 wr) (fun _ i _ => r.length - (intOf i).toNat)
  case atStart => exact ⟨0, [], by omega, rfl, Nat.le_refl _, HR, Own.nil _ _, Below.refl _ _⟩
  case round =>
    clear HR
    obtain ⟨k, O, hk, rfl, hok, HC, hown, hbel⟩ := hrel
    generalize wr = wc at *
    obtain ⟨a, cp, rfl, hm1, hm2⟩ := hown.form
    unfold maxLen at hm2
    by_cases hlt : k < r.length
    · obtain ⟨b1, o1, c1', e1, _, _, hcl⟩ := (HO1.out.rd.below hbel).at (by omega)
      simp only [Value.slice.injEq, true_and] at e1
      obtain ⟨rfl, rfl⟩ := e1
      have hck := hcl k hlt
      have hc := HC.out
      rw [drop_at hlt, canc_cons] at hc
      generalize r.getD k 0 = x at *
      have hsz := hbel.size
      have HO := Lib.hid hown; have HBE := Lib.hid hbel
      clear hcl HC hown hbel
      rcases snoc_cases O with rfl | ⟨p, y, rfl⟩
      · have HN : Hid (canc [x] (r.drop (k + 1)) = F) := by
          rw [show topIs [] x = false from rfl, if_neg (by simp)] at hc
          exact hc
        clear hc
        simp only [List.length_nil] at hm1 HO
        go_wp2_with (at_builtin; refine wp_append _ rfl (.tmp 30) (.tmp 32) rfl w1.heap.size _ _ [] [x] rfl rfl (HO.out.below (Below.alloc1 _ _)) (Own.lit1 _ wc x (Nat.le_refl _)).rd (by simp) (by simp; omega) ?_; intro v4 w4 ho4 hg4 hb4; have HO4 := Lib.hid ho4; have HB4 := Lib.hid ((HBE.out.alloc hsz _).trans hb4); clear ho4 hg4 hb4)
        go_roundw
        case rel => exact ⟨k + 1, [x], by omega, by go_num, by simp, HN, HO4.out, HB4.out⟩
        case measure => simp [intOf]; omega
      · rw [topIs_snoc, dropTop_snoc] at hc
        have hl : (p ++ [y]).length = p.length + 1 := by simp
        rw [hl] at hm1 HO hok
        rw [hl]
        have hg := HO.out.rd.at (by rw [hl]; omega)
        rw [hl] at hg
        obtain ⟨g, off, c2, e2, _, _, hcg⟩ := hg
        have hga : ∃ g, a = some ⟨g, 0, none⟩ := by
          rcases HO.out.shape with ⟨h0, _⟩ | ⟨g', c', h0, _⟩
          · cases h0
          · simp at h0; exact ⟨g', h0.1⟩
        obtain ⟨g', rfl⟩ := hga
        simp only [Value.slice.injEq, Option.some.injEq, Addr.mk.injEq, and_true, true_and] at e2
        obtain ⟨⟨rfl, rfl⟩, rfl⟩ := e2
        have hcy := hcg p.length (by omega)
        rw [Nat.zero_add, show (p ++ [y]).getD p.length 0 = y by simp [List.getD]] at hcy
        obtain ⟨n, hn⟩ : ∃ n, n = p.length := ⟨_, rfl⟩
        rw [← hn] at hcy hok hm1 HO
        rw [← hn]
        have HNN := Lib.hid hn
        have hn12 : n ≤ 12 := by omega
        clear hcg hl hn
        by_cases e : y = x
        · have HN : Hid (canc p (r.drop (k + 1)) = F) := by
            rw [if_pos (by simpa using e)] at hc; exact hc
          have hyx : (y == x) = true := by simpa using e
          have HP : Hid (Own w1.heap.size wc (.slice (some ⟨g', 0, none⟩) n cp) p) := by
            have := HO.out.cut n (by omega)
            rwa [List.take_left' HNN.out.symm] at this
          clear hc e
          go_wp2
          go_roundw
          case rel => exact ⟨k + 1, p, by omega, by go_num, by have := HNN.out; omega, HN, HP.out, HBE.out⟩
          case measure => simp [intOf]; omega
        · have HN : Hid (canc (p ++ [y] ++ [x]) (r.drop (k + 1)) = F) := by
            rw [if_neg (by simpa using e)] at hc; exact hc
          have hyx : (y == x) = false := by simpa using e
          clear hc e
          go_wp2_with (at_builtin; refine wp_append _ rfl (.tmp 30) (.tmp 32) rfl w1.heap.size _ _ (p ++ [y]) [x] rfl rfl (HO.out.below (Below.alloc1 _ _)) (Own.lit1 _ wc x (Nat.le_refl _)).rd (by have := HNN.out; simp; omega) (by simp; omega) ?_; intro v4 w4 ho4 hg4 hb4; have HO4 := Lib.hid ho4; have HB4 := Lib.hid ((HBE.out.alloc hsz _).trans hb4); clear ho4 hg4 hb4)
          go_roundw
          case rel => exact ⟨k + 1, p ++ [y] ++ [x], by omega, by go_num, by have := HNN.out; simp; omega, HN, HO4.out, HB4.out⟩
          case measure => simp [intOf]; omega
    · obtain rfl : k = r.length := by omega
      have hc := HC.out
      rw [List.drop_length] at hc
      have hF : O = F := hc
      subst hF
      have HBE := Lib.hid hbel
      clear HC hc hown hbel
      obtain ⟨n, hn⟩ : ∃ n, n = O.length := ⟨_, rfl⟩
      rw [← hn] at hm1 ⊢
      have HN := Lib.hid hn
      clear hn hok
      by_cases h : 0 < n
      · have HQ : Hid (bF = true) := by show bF = true; rw [← HBF.out, ← HN.out]; simp; omega
        go_wp2
        go_ret
        exact ⟨by rw [HQ.out]; rfl, Below.step HB1.out HBE.out⟩
      · have HQ : Hid (bF = false) := by show bF = false; rw [← HBF.out, ← HN.out]; simp; omega
        go_wp2
        go_ret
        exact ⟨by rw [HQ.out]; rfl, Below.step HB1.out HBE.out⟩

end Go.Proofs.Ytnkkgbecdckigac
