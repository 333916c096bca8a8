/- The program's pieces. -/
import Derived.Test.YtaeeopdiodaiaabCutPr
import Derived.Deep.LoopGhost
namespace Go.Proofs.Ytaeeopdiodaiaab
open Go.RowKit
set_option linter.unusedSimpArgs false
set_option linter.unusedVariables false


set_option maxRecDepth 100000 in
set_option maxHeartbeats 4000000 in
theorem piecesFirst_any (t b : List Int) (hg : goodP t b) (h0 : 0 < t.length) (w : World) :
    Calls Try.prog 58 #[.agg (pairC t b), .func (.func 51) #[] #[]] w (MadeP w (piecesL false t b)) := by
  have HP0 := Lib.hid (PairIn.new w t b)
  have HB0 := Lib.hid (Below.alloc1 w (.cells (pairC t b) 70))
  have HLEN : Hid (t.length ≤ 12 ∧ (piecesL false t b).length ≤ 6) := ⟨(pair12 hg).1, (pieces_bd false hg h0).1⟩
  have HG0 := Lib.hid (show goodP t b ∧ 0 < t.length from ⟨hg, h0⟩)
  clear hg h0
  go_enter Try.func58, Try.ntmps58
  go_wp2_with fail
  have hsz1 : (w.alloc (.cells (pairC t b) 70)).heap.size = w.heap.size + 1 := World.size_alloc _ _
  generalize w.alloc (.cells (pairC t b) 70) = W1 at *
  have HZ1 := Lib.hid hsz1; clear hsz1
  go_loopg [5] t.length (fun g o wr => ∃ (T B : List Int) (D : List (List Int × List Int)), Hid (goodP T B ∧ 0 < T.length ∧ T.length ≤ g) ∧ Hid (D ++ piecesL false T B = piecesL false t b) ∧ OwnP (w.heap.size + 1) wr o D ∧ Hid (PairIn wr w.heap.size T B ∧ Below w.heap.size w wr ∧ w.heap.size + 1 ≤ wr.heap.size))
  case atStart => exact ⟨t, b, [], ⟨HG0.out.1, HG0.out.2, Nat.le_refl _⟩, by simp [Hid], OwnP.nil _ _, HP0.out, HB0.out, by rw [HZ1.out]; exact Nat.le_refl _⟩
  case round =>
    obtain ⟨T, B, D, HG, HD, hown, HW⟩ := hrel
    clear HP0 HB0 HG0 HZ1
    generalize wr = wa at *
    have HSE := Lib.hid (fun w => searchFirst_any T B w)
    have hsh := fun w => shortestFirst_any T B (pair12 HG.out.1).1 w
    unfold ShOut at hsh
    have hdl : D.length ≤ 6 := by have h := congrArg List.length HD.out; rw [List.length_append] at h; have := HLEN.out.2; omega
    generalize (seC (T.length : Int) T B 78) = C at *
    cases hs : shortL false T B with
    | none =>
      rw [hs] at hsh
      have HF := Lib.hid hsh
      have HE : Hid (D ++ [(T, B)] = piecesL false t b) := by show _ = _; rw [← HD.out, pieces_none hs]
      have HO := Lib.hid hown
      clear hsh hs hown
      go_wp2_with (first
        | (with_reducible refine wp_loadPair rfl (.tmp 2) rfl w.heap.size T B rfl HW.out.1 ?_)
        | (go_at_call 51; ((with_reducible refine (HSE.out _).mono ?_); rintro e w2 ⟨rfl, hb2⟩; have HP2 := Lib.hid (HW.out.1.below hb2); have HB2 := Lib.hid hb2; clear hb2))
        | (go_at_call 89; ((with_reducible refine (HF.out _).mono ?_); rintro e w3 ⟨rfl, hb3⟩; have HP3 := Lib.hid (HP2.out.below hb3); have HB3 := Lib.hid (Below.step HB2.out hb3); clear hb3))
        | ((with_reducible refine wp_storeStrN rfl (.tmp 6) (.tmp 13) rfl _ _ rfl rfl ?_); intro w4 hs4 hb4; have HP4 := Lib.hid (HP3.out.below hb4); have HB4 := Lib.hid (Below.step HB3.out hb4); clear hs4 hb4)
        | (with_reducible refine wp_loadPair rfl (.tmp 2) rfl w.heap.size T B rfl HP4.out ?_)
        | (with_reducible refine wp_buildP1 _ rfl (.tmp 18) rfl T B rfl ?_)
        | (at_builtin; refine wp_appendPs _ rfl (.tmp 17) (.tmp 19) rfl (w.heap.size + 1) w4.heap.size 1 1 _ D [(T, B)] rfl rfl rfl (fun j hj => built_cells w4 T B j hj) ((HO.out.below HB4.out).below (Below.alloc1 _ _)) (by simp; omega) (by have := HB4.out.size; have := HW.out.2.2; simp; omega) ?_; intro o' w7 ho7 hg7 hb7 hw7; obtain ⟨a7, c7, rfl, -, -⟩ := ho7.form; have HO7 := Lib.hid ho7; have HB7 := Lib.hid (((HW.out.2.1.trans (HB4.out.mono HW.out.2.1.size)).alloc (Nat.le_trans HW.out.2.1.size HB4.out.size) _).trans (hb7.mono (Nat.le_succ _))); clear ho7 hg7 hb7 hw7))
      go_ret
      have e7 : (D ++ [(T, B)]).length = D.length + 1 := by simp
      rw [e7, HE.out] at HO7
      exact ⟨_, rfl, HO7.out.mono (Nat.le_succ _), HB7.out⟩
    | some p =>
      obtain ⟨x, y⟩ := p
      rw [hs] at hsh
      have HF := Lib.hid hsh
      have hf := short_fits hs
      have hpr := hf.1
      unfold proper at hpr
      simp only at hpr
      have hgo := inner_good HG.out.1 hpr.1 hpr.2.1 hf.2
      have HIN := Lib.hid (fun w => inside_any T B x y HG.out.1 hpr.1 hpr.2.1 hf.2 w)
      have HOU := Lib.hid (fun w => outside_any T B x y HG.out.1 hpr.1 hpr.2.1 hf.2 w)
      have hol := outerL_length (l := T) hpr.1 hpr.2.1
      have HE : Hid ((D ++ [(innerL T x y, innerL B x y)]) ++ piecesL false (outerL T x y) (outerL B x y) = piecesL false t b) := by show _ = _; rw [← HD.out, pieces_some hs, List.append_assoc]; rfl
      have HN : Hid (goodP (outerL T x y) (outerL B x y) ∧ 0 < (outerL T x y).length ∧ (outerL T x y).length < T.length) := ⟨hgo.2, by omega, by omega⟩
      generalize innerL T x y = T1 at *
      generalize innerL B x y = B1 at *
      generalize outerL T x y = T2 at *
      generalize outerL B x y = B2 at *
      have HO := Lib.hid hown
      clear hsh hs hown hf hpr hgo hol
      go_wp2_with (first
        | (with_reducible refine wp_loadPair rfl (.tmp 2) rfl w.heap.size T B rfl HW.out.1 ?_)
        | (go_at_call 51; ((with_reducible refine (HSE.out _).mono ?_); rintro e w2 ⟨rfl, hb2⟩; have HP2 := Lib.hid (HW.out.1.below hb2); have HB2 := Lib.hid hb2; clear hb2))
        | (go_at_call 89; ((with_reducible refine (HF.out _).mono ?_); rintro e w3 ⟨rfl, hb3⟩; have HP3 := Lib.hid (HP2.out.below hb3); have HB3 := Lib.hid (Below.step HB2.out hb3); clear hb3))
        | ((with_reducible refine wp_storeStrN rfl (.tmp 6) (.tmp 13) rfl (x : Int) (y : Int) rfl rfl ?_); intro w4 hs4 hb4; have HS4 := Lib.hid hs4; have HP4 := Lib.hid (HP3.out.below hb4); have HB4 := Lib.hid (Below.step HB3.out hb4); clear hs4 hb4)
        | (with_reducible refine wp_loadPair rfl (.tmp 2) rfl w.heap.size T B rfl HP4.out ?_)
        | (with_reducible refine wp_loadStr rfl (.tmp 6) rfl w3.heap.size x y rfl HS4.out ?_)
        | (go_at_call 90; ((with_reducible refine (HIN.out _).mono ?_); rintro e w5 ⟨rfl, hb5⟩; have HS5 := Lib.hid (HS4.out.below hb5); have HP5 := Lib.hid (HP4.out.below hb5); have HB5 := Lib.hid (Below.step HB4.out hb5); clear hb5))
        | (with_reducible refine wp_buildP1 _ rfl (.tmp 24) rfl T1 B1 rfl ?_)
        | (at_builtin; refine wp_appendPs _ rfl (.tmp 21) (.tmp 25) rfl (w.heap.size + 1) w5.heap.size 1 1 _ D [(T1, B1)] rfl rfl rfl (fun j hj => built_cells w5 T1 B1 j hj) ((HO.out.below HB5.out).below (Below.alloc1 _ _)) (by simp; omega) (by have := HB5.out.size; have := HW.out.2.2; simp; omega) ?_; intro o' w7 ho7 hg7 hb7 hw7; have HO7 := Lib.hid ho7; have hlt5 : w.heap.size + 1 ≤ w3.heap.size := Nat.le_trans HW.out.2.2 HB3.out.size; have HS7 := Lib.hid ((HS5.out.below (Below.alloc1 _ _)).grown hg7 (fun e => by have h5 := HO.out.lt _ e.symm; have := HB3.out.size; omega)); have HP7 := Lib.hid ((HP5.out.below (Below.alloc1 _ _)).grown hg7 (fun e => by have h5 := HO.out.lt _ e.symm; omega)); have HB7 := Lib.hid (((HW.out.2.1.trans (HB5.out.mono HW.out.2.1.size)).alloc (Nat.le_trans HW.out.2.1.size HB5.out.size) _).trans (hb7.mono (Nat.le_succ _))); have hz7 : w.heap.size + 1 ≤ w7.heap.size := (by have := hg7.size; have := HB5.out.size; have := HW.out.2.2; simp at *; omega); clear ho7 hg7 hb7 hw7)
        | (with_reducible refine wp_loadPair rfl (.tmp 2) rfl w.heap.size T B rfl HP7.out ?_)
        | (with_reducible refine wp_loadStr rfl (.tmp 6) rfl w3.heap.size x y rfl HS7.out ?_)
        | (go_at_call 91; ((with_reducible refine (HOU.out _).mono ?_); rintro e w8 ⟨rfl, hb8⟩; have HO8 := Lib.hid (HO7.out.below hb8); have HP8 := Lib.hid (HP7.out.below hb8); have HB8 := Lib.hid (Below.step HB7.out hb8); have hz8 : w.heap.size + 1 ≤ w8.heap.size := Nat.le_trans hz7 hb8.size; clear hb8))
        | ((with_reducible refine wp_storePair rfl (.tmp 2) (.tmp 29) rfl w.heap.size T2 B2 T B rfl rfl HP8.out ?_); intro w9 hs9 hg9; have HP9 := Lib.hid hs9; have HO9 := Lib.hid (HO8.out.grown hg9 (fun k hk e => by have h5 := (HO8.out.lt k hk).1; simp at e; omega)); have HB9 := Lib.hid (HB8.out.grown hg9 HB8.out.size (by intro k hk; simp at hk; omega)); have hz9 : w.heap.size + 1 ≤ w9.heap.size := Nat.le_trans hz8 hg9.size; clear hs9 hg9))
      go_roundg (gk - 1)
      case measure => have := HG.out.2.2; have := HG.out.2.1; omega
      case rel => exact ⟨T2, B2, D ++ [(T1, B1)], ⟨HN.out.1, HN.out.2.1, by have := HN.out.2.2; have := HG.out.2.2; omega⟩, HE.out, HO9.out, HP9.out, HB9.out, hz9⟩

set_option maxRecDepth 100000 in
set_option maxHeartbeats 4000000 in
theorem piecesLast_any (t b : List Int) (hg : goodP t b) (h0 : 0 < t.length) (w : World) :
    Calls Try.prog 58 #[.agg (pairC t b), .func (.func 52) #[] #[]] w (MadeP w (piecesL true t b)) := by
  have HP0 := Lib.hid (PairIn.new w t b)
  have HB0 := Lib.hid (Below.alloc1 w (.cells (pairC t b) 70))
  have HLEN : Hid (t.length ≤ 12 ∧ (piecesL true t b).length ≤ 6) := ⟨(pair12 hg).1, (pieces_bd true hg h0).1⟩
  have HG0 := Lib.hid (show goodP t b ∧ 0 < t.length from ⟨hg, h0⟩)
  clear hg h0
  go_enter Try.func58, Try.ntmps58
  go_wp2_with fail
  have hsz1 : (w.alloc (.cells (pairC t b) 70)).heap.size = w.heap.size + 1 := World.size_alloc _ _
  generalize w.alloc (.cells (pairC t b) 70) = W1 at *
  have HZ1 := Lib.hid hsz1; clear hsz1
  go_loopg [5] t.length (fun g o wr => ∃ (T B : List Int) (D : List (List Int × List Int)), Hid (goodP T B ∧ 0 < T.length ∧ T.length ≤ g) ∧ Hid (D ++ piecesL true T B = piecesL true t b) ∧ OwnP (w.heap.size + 1) wr o D ∧ Hid (PairIn wr w.heap.size T B ∧ Below w.heap.size w wr ∧ w.heap.size + 1 ≤ wr.heap.size))
  case atStart => exact ⟨t, b, [], ⟨HG0.out.1, HG0.out.2, Nat.le_refl _⟩, by simp [Hid], OwnP.nil _ _, HP0.out, HB0.out, by rw [HZ1.out]; exact Nat.le_refl _⟩
  case round =>
    obtain ⟨T, B, D, HG, HD, hown, HW⟩ := hrel
    clear HP0 HB0 HG0 HZ1
    generalize wr = wa at *
    have HSE := Lib.hid (fun w => searchLast_any T B w)
    have hsh := fun w => shortestLast_any T B (pair12 HG.out.1).1 w
    unfold ShOut at hsh
    have hdl : D.length ≤ 6 := by have h := congrArg List.length HD.out; rw [List.length_append] at h; have := HLEN.out.2; omega
    generalize (seC (T.length : Int) T B 79) = C at *
    cases hs : shortL true T B with
    | none =>
      rw [hs] at hsh
      have HF := Lib.hid hsh
      have HE : Hid (D ++ [(T, B)] = piecesL true t b) := by show _ = _; rw [← HD.out, pieces_none hs]
      have HO := Lib.hid hown
      clear hsh hs hown
      go_wp2_with (first
        | (with_reducible refine wp_loadPair rfl (.tmp 2) rfl w.heap.size T B rfl HW.out.1 ?_)
        | (go_at_call 52; ((with_reducible refine (HSE.out _).mono ?_); rintro e w2 ⟨rfl, hb2⟩; have HP2 := Lib.hid (HW.out.1.below hb2); have HB2 := Lib.hid hb2; clear hb2))
        | (go_at_call 89; ((with_reducible refine (HF.out _).mono ?_); rintro e w3 ⟨rfl, hb3⟩; have HP3 := Lib.hid (HP2.out.below hb3); have HB3 := Lib.hid (Below.step HB2.out hb3); clear hb3))
        | ((with_reducible refine wp_storeStrN rfl (.tmp 6) (.tmp 13) rfl _ _ rfl rfl ?_); intro w4 hs4 hb4; have HP4 := Lib.hid (HP3.out.below hb4); have HB4 := Lib.hid (Below.step HB3.out hb4); clear hs4 hb4)
        | (with_reducible refine wp_loadPair rfl (.tmp 2) rfl w.heap.size T B rfl HP4.out ?_)
        | (with_reducible refine wp_buildP1 _ rfl (.tmp 18) rfl T B rfl ?_)
        | (at_builtin; refine wp_appendPs _ rfl (.tmp 17) (.tmp 19) rfl (w.heap.size + 1) w4.heap.size 1 1 _ D [(T, B)] rfl rfl rfl (fun j hj => built_cells w4 T B j hj) ((HO.out.below HB4.out).below (Below.alloc1 _ _)) (by simp; omega) (by have := HB4.out.size; have := HW.out.2.2; simp; omega) ?_; intro o' w7 ho7 hg7 hb7 hw7; obtain ⟨a7, c7, rfl, -, -⟩ := ho7.form; have HO7 := Lib.hid ho7; have HB7 := Lib.hid (((HW.out.2.1.trans (HB4.out.mono HW.out.2.1.size)).alloc (Nat.le_trans HW.out.2.1.size HB4.out.size) _).trans (hb7.mono (Nat.le_succ _))); clear ho7 hg7 hb7 hw7))
      go_ret
      have e7 : (D ++ [(T, B)]).length = D.length + 1 := by simp
      rw [e7, HE.out] at HO7
      exact ⟨_, rfl, HO7.out.mono (Nat.le_succ _), HB7.out⟩
    | some p =>
      obtain ⟨x, y⟩ := p
      rw [hs] at hsh
      have HF := Lib.hid hsh
      have hf := short_fits hs
      have hpr := hf.1
      unfold proper at hpr
      simp only at hpr
      have hgo := inner_good HG.out.1 hpr.1 hpr.2.1 hf.2
      have HIN := Lib.hid (fun w => inside_any T B x y HG.out.1 hpr.1 hpr.2.1 hf.2 w)
      have HOU := Lib.hid (fun w => outside_any T B x y HG.out.1 hpr.1 hpr.2.1 hf.2 w)
      have hol := outerL_length (l := T) hpr.1 hpr.2.1
      have HE : Hid ((D ++ [(innerL T x y, innerL B x y)]) ++ piecesL true (outerL T x y) (outerL B x y) = piecesL true t b) := by show _ = _; rw [← HD.out, pieces_some hs, List.append_assoc]; rfl
      have HN : Hid (goodP (outerL T x y) (outerL B x y) ∧ 0 < (outerL T x y).length ∧ (outerL T x y).length < T.length) := ⟨hgo.2, by omega, by omega⟩
      generalize innerL T x y = T1 at *
      generalize innerL B x y = B1 at *
      generalize outerL T x y = T2 at *
      generalize outerL B x y = B2 at *
      have HO := Lib.hid hown
      clear hsh hs hown hf hpr hgo hol
      go_wp2_with (first
        | (with_reducible refine wp_loadPair rfl (.tmp 2) rfl w.heap.size T B rfl HW.out.1 ?_)
        | (go_at_call 52; ((with_reducible refine (HSE.out _).mono ?_); rintro e w2 ⟨rfl, hb2⟩; have HP2 := Lib.hid (HW.out.1.below hb2); have HB2 := Lib.hid hb2; clear hb2))
        | (go_at_call 89; ((with_reducible refine (HF.out _).mono ?_); rintro e w3 ⟨rfl, hb3⟩; have HP3 := Lib.hid (HP2.out.below hb3); have HB3 := Lib.hid (Below.step HB2.out hb3); clear hb3))
        | ((with_reducible refine wp_storeStrN rfl (.tmp 6) (.tmp 13) rfl (x : Int) (y : Int) rfl rfl ?_); intro w4 hs4 hb4; have HS4 := Lib.hid hs4; have HP4 := Lib.hid (HP3.out.below hb4); have HB4 := Lib.hid (Below.step HB3.out hb4); clear hs4 hb4)
        | (with_reducible refine wp_loadPair rfl (.tmp 2) rfl w.heap.size T B rfl HP4.out ?_)
        | (with_reducible refine wp_loadStr rfl (.tmp 6) rfl w3.heap.size x y rfl HS4.out ?_)
        | (go_at_call 90; ((with_reducible refine (HIN.out _).mono ?_); rintro e w5 ⟨rfl, hb5⟩; have HS5 := Lib.hid (HS4.out.below hb5); have HP5 := Lib.hid (HP4.out.below hb5); have HB5 := Lib.hid (Below.step HB4.out hb5); clear hb5))
        | (with_reducible refine wp_buildP1 _ rfl (.tmp 24) rfl T1 B1 rfl ?_)
        | (at_builtin; refine wp_appendPs _ rfl (.tmp 21) (.tmp 25) rfl (w.heap.size + 1) w5.heap.size 1 1 _ D [(T1, B1)] rfl rfl rfl (fun j hj => built_cells w5 T1 B1 j hj) ((HO.out.below HB5.out).below (Below.alloc1 _ _)) (by simp; omega) (by have := HB5.out.size; have := HW.out.2.2; simp; omega) ?_; intro o' w7 ho7 hg7 hb7 hw7; have HO7 := Lib.hid ho7; have hlt5 : w.heap.size + 1 ≤ w3.heap.size := Nat.le_trans HW.out.2.2 HB3.out.size; have HS7 := Lib.hid ((HS5.out.below (Below.alloc1 _ _)).grown hg7 (fun e => by have h5 := HO.out.lt _ e.symm; have := HB3.out.size; omega)); have HP7 := Lib.hid ((HP5.out.below (Below.alloc1 _ _)).grown hg7 (fun e => by have h5 := HO.out.lt _ e.symm; omega)); have HB7 := Lib.hid (((HW.out.2.1.trans (HB5.out.mono HW.out.2.1.size)).alloc (Nat.le_trans HW.out.2.1.size HB5.out.size) _).trans (hb7.mono (Nat.le_succ _))); have hz7 : w.heap.size + 1 ≤ w7.heap.size := (by have := hg7.size; have := HB5.out.size; have := HW.out.2.2; simp at *; omega); clear ho7 hg7 hb7 hw7)
        | (with_reducible refine wp_loadPair rfl (.tmp 2) rfl w.heap.size T B rfl HP7.out ?_)
        | (with_reducible refine wp_loadStr rfl (.tmp 6) rfl w3.heap.size x y rfl HS7.out ?_)
        | (go_at_call 91; ((with_reducible refine (HOU.out _).mono ?_); rintro e w8 ⟨rfl, hb8⟩; have HO8 := Lib.hid (HO7.out.below hb8); have HP8 := Lib.hid (HP7.out.below hb8); have HB8 := Lib.hid (Below.step HB7.out hb8); have hz8 : w.heap.size + 1 ≤ w8.heap.size := Nat.le_trans hz7 hb8.size; clear hb8))
        | ((with_reducible refine wp_storePair rfl (.tmp 2) (.tmp 29) rfl w.heap.size T2 B2 T B rfl rfl HP8.out ?_); intro w9 hs9 hg9; have HP9 := Lib.hid hs9; have HO9 := Lib.hid (HO8.out.grown hg9 (fun k hk e => by have h5 := (HO8.out.lt k hk).1; simp at e; omega)); have HB9 := Lib.hid (HB8.out.grown hg9 HB8.out.size (by intro k hk; simp at hk; omega)); have hz9 : w.heap.size + 1 ≤ w9.heap.size := Nat.le_trans hz8 hg9.size; clear hs9 hg9))
      go_roundg (gk - 1)
      case measure => have := HG.out.2.2; have := HG.out.2.1; omega
      case rel => exact ⟨T2, B2, D ++ [(T1, B1)], ⟨HN.out.1, HN.out.2.1, by have := HN.out.2.2; have := HG.out.2.2; omega⟩, HE.out, HO9.out, HP9.out, HB9.out, hz9⟩

end Go.Proofs.Ytaeeopdiodaiaab
