/- The program's pieces. -/
/- PiecesOf, PiecesBack, IsSimple: the program's functions. -/
/- CountSimple, CountByPieces, AllWhole: the program's functions; AllWhole of the model. -/
/- The model's pieces. -/
/- PiecesOf, PiecesBack, IsSimple, CountSimple, CountByPieces of the model. -/
/- AllWhole: the program's function and the model's. -/
import Derived.Test.YtogjclmmjdhfeabCutPr
import Derived.Deep.LoopGhost
import Derived.Test.YtogjclmmjdhfeabMeOf
import Derived.Test.YtogjclmmjdhfeabReadArch
import Derived.Deep.RegionLaw
import Derived.RegionTactic
import Derived.Deep.RegionWith
namespace Go.Proofs.Ytogjclmmjdhfeab
open Go.RowKit
set_option linter.unusedSimpArgs false
set_option linter.unusedVariables false


set_option maxRecDepth 100000 in
set_option maxHeartbeats 4000000 in
theorem piecesFirst_any (t b : List Int) (hg : goodP t b) (h0 : 0 < t.length) (w : World) :
    Calls Try.prog 149 #[.agg (pairC t b), .func (.func 139) #[] #[]] w (MadeP w (piecesL false t b)) := by
  have HP0 := Lib.hid (PairIn.new w t b)
  have HB0 := Lib.hid (Below.alloc1 w (.cells (pairC t b) 102))
  have HLEN : Hid (t.length ≤ 12 ∧ (piecesL false t b).length ≤ 6) := ⟨(pair12 hg).1, (pieces_bd false hg h0).1⟩
  have HG0 := Lib.hid (show goodP t b ∧ 0 < t.length from ⟨hg, h0⟩)
  clear hg h0
  go_enter Try.func149, Try.ntmps149
  go_wp2_with fail
  have hsz1 : (w.alloc (.cells (pairC t b) 102)).heap.size = w.heap.size + 1 := World.size_alloc _ _
  generalize w.alloc (.cells (pairC t b) 102) = W1 at *
  have HZ1 := Lib.hid hsz1; clear hsz1
  go_loopg [5] t.length (fun g o wr => ∃ (T B : List Int) (D : List (List Int × List Int)), Hid (goodP T B ∧ 0 < T.length ∧ T.length ≤ g) ∧ Hid (D ++ piecesL false T B = piecesL false t b) ∧ OwnP (w.heap.size + 1) wr o D ∧ Hid (PairIn wr w.heap.size T B ∧ Below w.heap.size w wr ∧ w.heap.size + 1 ≤ wr.heap.size))
  case atStart => exact ⟨t, b, [], ⟨HG0.out.1, HG0.out.2, Nat.le_refl _⟩, by simp [Hid], OwnP.nil _ _, HP0.out, HB0.out, by rw [HZ1.out]; exact Nat.le_refl _⟩
  case round =>
    obtain ⟨T, B, D, HG, HD, hown, HW⟩ := hrel
    clear HP0 HB0 HG0 HZ1
    generalize wr = wa at *
    have HSE := Lib.hid (fun w => searchFirst_any T B w)
    have hsh := fun w => shortestFirst_any T B (pair12 HG.out.1).1 w
    unfold ShOut at hsh
    have hdl : D.length ≤ 6 := by have h := congrArg List.length HD.out; rw [List.length_append] at h; have := HLEN.out.2; omega
    generalize (seC (T.length : Int) T B 198) = C at *
    cases hs : shortL false T B with
    | none =>
      rw [hs] at hsh
      have HF := Lib.hid hsh
      have HE : Hid (D ++ [(T, B)] = piecesL false t b) := by show _ = _; rw [← HD.out, pieces_none hs]
      have HO := Lib.hid hown
      clear hsh hs hown
      go_wp2_with (first
        | (with_reducible refine wp_loadPair rfl (.tmp 2) rfl w.heap.size T B rfl HW.out.1 ?_)
        | (go_at_call 139; ((with_reducible refine (HSE.out _).mono ?_); rintro e w2 ⟨rfl, hb2⟩; have HP2 := Lib.hid (HW.out.1.below hb2); have HB2 := Lib.hid hb2; clear hb2))
        | (go_at_call 140; ((with_reducible refine (HF.out _).mono ?_); rintro e w3 ⟨rfl, hb3⟩; have HP3 := Lib.hid (HP2.out.below hb3); have HB3 := Lib.hid (Below.step HB2.out hb3); clear hb3))
        | ((with_reducible refine wp_storeStrN rfl (.tmp 6) (.tmp 13) rfl _ _ rfl rfl ?_); intro w4 hs4 hb4; have HP4 := Lib.hid (HP3.out.below hb4); have HB4 := Lib.hid (Below.step HB3.out hb4); clear hs4 hb4)
        | (with_reducible refine wp_loadPair rfl (.tmp 2) rfl w.heap.size T B rfl HP4.out ?_)
        | (with_reducible refine wp_buildP1 _ rfl (.tmp 18) rfl T B rfl ?_)
        | (at_builtin; refine wp_appendPs _ rfl (.tmp 17) (.tmp 19) rfl (w.heap.size + 1) w4.heap.size 1 1 _ D [(T, B)] rfl rfl rfl (fun j hj => built_cells w4 T B j hj) ((HO.out.below HB4.out).below (Below.alloc1 _ _)) (by simp; omega) (by have := HB4.out.size; have := HW.out.2.2; simp; omega) ?_; intro o' w7 ho7 hg7 hb7 hw7; obtain ⟨a7, c7, rfl, -, -⟩ := ho7.form; have HO7 := Lib.hid ho7; have HB7 := Lib.hid (((HW.out.2.1.trans (HB4.out.mono HW.out.2.1.size)).alloc (Nat.le_trans HW.out.2.1.size HB4.out.size) _).trans (hb7.mono (Nat.le_succ _))); clear ho7 hg7 hb7 hw7))
      go_ret
      have e7 : (D ++ [(T, B)]).length = D.length + 1 := by simp
      rw [e7, HE.out] at HO7
      exact ⟨_, rfl, HO7.out.mono (Nat.le_succ _), HB7.out⟩
    | some p =>
      obtain ⟨x, y⟩ := p
      rw [hs] at hsh
      have HF := Lib.hid hsh
      have hf := short_fits hs
      have hpr := hf.1
      unfold proper at hpr
      simp only at hpr
      have hgo := inner_good HG.out.1 hpr.1 hpr.2.1 hf.2
      have HIN := Lib.hid (fun w => inside_any T B x y HG.out.1 hpr.1 hpr.2.1 hf.2 w)
      have HOU := Lib.hid (fun w => outside_any T B x y HG.out.1 hpr.1 hpr.2.1 hf.2 w)
      have hol := outerL_length (l := T) hpr.1 hpr.2.1
      have HE : Hid ((D ++ [(innerL T x y, innerL B x y)]) ++ piecesL false (outerL T x y) (outerL B x y) = piecesL false t b) := by show _ = _; rw [← HD.out, pieces_some hs, List.append_assoc]; rfl
      have HN : Hid (goodP (outerL T x y) (outerL B x y) ∧ 0 < (outerL T x y).length ∧ (outerL T x y).length < T.length) := ⟨hgo.2, by omega, by omega⟩
      generalize innerL T x y = T1 at *
      generalize innerL B x y = B1 at *
      generalize outerL T x y = T2 at *
      generalize outerL B x y = B2 at *
      have HO := Lib.hid hown
      clear hsh hs hown hf hpr hgo hol
      go_wp2_with (first
        | (with_reducible refine wp_loadPair rfl (.tmp 2) rfl w.heap.size T B rfl HW.out.1 ?_)
        | (go_at_call 139; ((with_reducible refine (HSE.out _).mono ?_); rintro e w2 ⟨rfl, hb2⟩; have HP2 := Lib.hid (HW.out.1.below hb2); have HB2 := Lib.hid hb2; clear hb2))
        | (go_at_call 140; ((with_reducible refine (HF.out _).mono ?_); rintro e w3 ⟨rfl, hb3⟩; have HP3 := Lib.hid (HP2.out.below hb3); have HB3 := Lib.hid (Below.step HB2.out hb3); clear hb3))
        | ((with_reducible refine wp_storeStrN rfl (.tmp 6) (.tmp 13) rfl (x : Int) (y : Int) rfl rfl ?_); intro w4 hs4 hb4; have HS4 := Lib.hid hs4; have HP4 := Lib.hid (HP3.out.below hb4); have HB4 := Lib.hid (Below.step HB3.out hb4); clear hs4 hb4)
        | (with_reducible refine wp_loadPair rfl (.tmp 2) rfl w.heap.size T B rfl HP4.out ?_)
        | (with_reducible refine wp_loadStr rfl (.tmp 6) rfl w3.heap.size x y rfl HS4.out ?_)
        | (go_at_call 123; ((with_reducible refine (HIN.out _).mono ?_); rintro e w5 ⟨rfl, hb5⟩; have HS5 := Lib.hid (HS4.out.below hb5); have HP5 := Lib.hid (HP4.out.below hb5); have HB5 := Lib.hid (Below.step HB4.out hb5); clear hb5))
        | (with_reducible refine wp_buildP1 _ rfl (.tmp 24) rfl T1 B1 rfl ?_)
        | (at_builtin; refine wp_appendPs _ rfl (.tmp 21) (.tmp 25) rfl (w.heap.size + 1) w5.heap.size 1 1 _ D [(T1, B1)] rfl rfl rfl (fun j hj => built_cells w5 T1 B1 j hj) ((HO.out.below HB5.out).below (Below.alloc1 _ _)) (by simp; omega) (by have := HB5.out.size; have := HW.out.2.2; simp; omega) ?_; intro o' w7 ho7 hg7 hb7 hw7; have HO7 := Lib.hid ho7; have hlt5 : w.heap.size + 1 ≤ w3.heap.size := Nat.le_trans HW.out.2.2 HB3.out.size; have HS7 := Lib.hid ((HS5.out.below (Below.alloc1 _ _)).grown hg7 (fun e => by have h5 := HO.out.lt _ e.symm; have := HB3.out.size; omega)); have HP7 := Lib.hid ((HP5.out.below (Below.alloc1 _ _)).grown hg7 (fun e => by have h5 := HO.out.lt _ e.symm; omega)); have HB7 := Lib.hid (((HW.out.2.1.trans (HB5.out.mono HW.out.2.1.size)).alloc (Nat.le_trans HW.out.2.1.size HB5.out.size) _).trans (hb7.mono (Nat.le_succ _))); have hz7 : w.heap.size + 1 ≤ w7.heap.size := (by have := hg7.size; have := HB5.out.size; have := HW.out.2.2; simp at *; omega); clear ho7 hg7 hb7 hw7)
        | (with_reducible refine wp_loadPair rfl (.tmp 2) rfl w.heap.size T B rfl HP7.out ?_)
        | (with_reducible refine wp_loadStr rfl (.tmp 6) rfl w3.heap.size x y rfl HS7.out ?_)
        | (go_at_call 128; ((with_reducible refine (HOU.out _).mono ?_); rintro e w8 ⟨rfl, hb8⟩; have HO8 := Lib.hid (HO7.out.below hb8); have HP8 := Lib.hid (HP7.out.below hb8); have HB8 := Lib.hid (Below.step HB7.out hb8); have hz8 : w.heap.size + 1 ≤ w8.heap.size := Nat.le_trans hz7 hb8.size; clear hb8))
        | ((with_reducible refine wp_storePair rfl (.tmp 2) (.tmp 29) rfl w.heap.size T2 B2 T B rfl rfl HP8.out ?_); intro w9 hs9 hg9; have HP9 := Lib.hid hs9; have HO9 := Lib.hid (HO8.out.grown hg9 (fun k hk e => by have h5 := (HO8.out.lt k hk).1; simp at e; omega)); have HB9 := Lib.hid (HB8.out.grown hg9 HB8.out.size (by intro k hk; simp at hk; omega)); have hz9 : w.heap.size + 1 ≤ w9.heap.size := Nat.le_trans hz8 hg9.size; clear hs9 hg9))
      go_roundg (gk - 1)
      case measure => have := HG.out.2.2; have := HG.out.2.1; omega
      case rel => exact ⟨T2, B2, D ++ [(T1, B1)], ⟨HN.out.1, HN.out.2.1, by have := HN.out.2.2; have := HG.out.2.2; omega⟩, HE.out, HO9.out, HP9.out, HB9.out, hz9⟩


end Go.Proofs.Ytogjclmmjdhfeab

namespace Go.Proofs.Ytogjclmmjdhfeab
open Go.RowKit
set_option linter.unusedSimpArgs false
set_option linter.unusedVariables false


def bigB (p : List Int × List Int) : Bool := decide (2 < p.1.length)
theorem simple_any2 {t b : List Int} (hg : goodP t b) (h0 : 0 < t.length) : simpleB t b = !((piecesL false t b).any bigB) := by
  unfold simpleB
  have h := (pieces_len false hg h0).2
  rw [Bool.eq_iff_iff]
  simp only [decide_eq_true_eq, h, Bool.not_eq_true', List.any_eq_false, bigB]
  constructor
  · intro h p hp; have := h p hp; omega
  · intro h p hp; have := h p hp; omega
theorem simple1_any (t b : List Int) (w : World) : Calls Try.prog 204 #[.agg (pairC t b)] w (Tells w (bigB (t, b))) := by
  have HSZ := Lib.hid (fun w => pairSize_any t b w)
  have HP := Lib.hid (PairIn.new w t b)
  have HB := Lib.hid (Below.alloc1 w (.cells (pairC t b) 102))
  unfold bigB
  simp only
  generalize t.length = n at *
  have hd : decide (2 < n) = decide ((2 : Int) < (n : Int)) := by rw [Bool.eq_iff_iff]; simp; omega
  rw [hd]
  clear hd
  go_enter Try.func204, Try.ntmps204
  go_wp2_with (first
    | (with_reducible refine wp_loadPair rfl (.tmp 1) rfl w.heap.size t b rfl HP.out ?_)
    | (go_at_call 84; ((with_reducible refine (HSZ.out _).mono ?_); rintro e w1 ⟨rfl, hb1⟩; have HB1 := Lib.hid (Below.step HB.out hb1); clear hb1)))
  go_ret
  exact ⟨by first | rfl | simp, HB1.out⟩
set_option maxHeartbeats 2000000 in
theorem indexF_any (ps : List (List Int × List Int)) (hn : ps.length ≤ 1000) (B : Nat) (w : World) (v : Value) (hown : OwnP B w v ps) :
    Calls Try.prog 223 #[v, .func (.func 204) #[] #[]] w (fun e w' => ∃ x : Int, e = .returned (.int .i64 x) ∧ decide (0 ≤ x) = ps.any bigB ∧ Below w.heap.size w w') := by
  have HCK := Lib.hid (fun (k : Nat) w => simple1_any (ps.getD k ([], [])).1 (ps.getD k ([], [])).2 w)
  have HAN : Hid (∀ k, k < ps.length → bigB (ps.getD k ([], [])) = true → ps.any bigB = true) := fun k hk h => List.any_eq_true.2 ⟨ps.getD k ([], []), by simp [List.getD, hk], h⟩
  have HNO : Hid ((∀ k, k < ps.length → bigB (ps.getD k ([], [])) = false) → ps.any bigB = false) := fun h => by
    rw [List.any_eq_false]
    intro p hp
    obtain ⟨k, hk, rfl⟩ := List.mem_iff_getElem.1 hp
    have := h k hk
    rw [show ps.getD k ([], []) = ps[k] by simp [List.getD, hk]] at this
    simp [this]
  obtain ⟨a0, c0, rfl, hx1, hx2⟩ := hown.form
  unfold maxLen at hx2
  have HO := Lib.hid hown
  clear hown
  go_enter Try.func223, Try.ntmps223
  go_wp2_with fail
  go_loopw [8] (fun i wr => ∃ k : Nat, k ≤ ps.length ∧ i = .int .i64 (k : Int) ∧ Hid (∀ j, j < k → bigB (ps.getD j ([], [])) = false) ∧ Below w.heap.size w wr) (fun i _ => ps.length - (intOf i).toNat)
  case atStart => exact ⟨0, by omega, rfl, fun j hj => absurd hj (Nat.not_lt_zero _), Below.refl _ _⟩
  case round =>
    obtain ⟨k, hk, rfl, HF, hbel⟩ := hrel
    generalize wr = wc at *
    by_cases hlt : k < ps.length
    · obtain ⟨g, rfl, hy1, hy2, hy3, hrg, hth⟩ := (HO.out.below hbel).at (by omega)
      have hr := hrg k hlt
      have hcall := HCK.out k
      have han := HAN.out k hlt
      have hnf : bigB (ps.getD k ([], [])) = false → Hid (∀ j, j < k + 1 → bigB (ps.getD j ([], [])) = false) := fun h j hj => by
        rcases Nat.lt_or_ge j k with h1 | h1
        · exact HF.out j h1
        · rw [show j = k by omega]; exact h
      generalize ps.getD k ([], []) = p at *
      obtain ⟨t, b⟩ := p
      simp only at hr hcall
      generalize bigB (t, b) = M at *
      have HR := Lib.hid hr; have HCL := Lib.hid hcall; have HBE := Lib.hid hbel
      clear hy1 hy2 hy3 hrg hth hr hcall hbel
      cases M with
      | true =>
        have HT := Lib.hid (han rfl)
        clear han hnf
        go_wp2_with (first
          | (with_reducible refine boxP_load rfl (.tmp 14) rfl g (k * 26) t b rfl HR.out ?_)
          | (go_at_call 204; ((with_reducible refine (HCL.out _).mono ?_); rintro e w6 ⟨rfl, hb6⟩; have HB6 := Lib.hid (Below.step HBE.out hb6); clear hb6)))
        go_ret
        exact ⟨_, rfl, by rw [HT.out]; exact decide_eq_true (by omega), HB6.out⟩
      | false =>
        have HF2 := hnf rfl
        clear han hnf
        go_wp2_with (first
          | (with_reducible refine boxP_load rfl (.tmp 14) rfl g (k * 26) t b rfl HR.out ?_)
          | (go_at_call 204; ((with_reducible refine (HCL.out _).mono ?_); rintro e w6 ⟨rfl, hb6⟩; have HB6 := Lib.hid (Below.step HBE.out hb6); clear hb6)))
        go_roundw
        case rel => exact ⟨k + 1, by omega, by go_num, HF2, HB6.out⟩
        case measure => simp [intOf]; omega
    · obtain rfl : k = ps.length := by omega
      have HT := Lib.hid (HNO.out HF.out)
      have HBE := Lib.hid hbel
      clear hbel
      go_wp2_with fail
      go_ret
      exact ⟨_, rfl, by rw [HT.out]; rfl, HBE.out⟩
theorem containsF_any (ps : List (List Int × List Int)) (hn : ps.length ≤ 1000) (B : Nat) (w : World) (v : Value) (hown : OwnP B w v ps) :
    Calls Try.prog 203 #[v, .func (.func 204) #[] #[]] w (Tells w (ps.any bigB)) := by
  have HI := Lib.hid (indexF_any ps hn B w v hown)
  obtain ⟨a0, c0, rfl, -, -⟩ := hown.form
  clear hown
  generalize ps.any bigB = R at *
  go_enter Try.func203, Try.ntmps203
  go_wp2_with (go_at_call 223; ((with_reducible refine HI.out.mono ?_); rintro e w1 ⟨x, rfl, hx, hb1⟩; have HX := Lib.hid hx; have HB1 := Lib.hid hb1; clear hx hb1))
  go_ret
  exact ⟨by rw [← HX.out]; rfl, HB1.out⟩
set_option maxHeartbeats 1000000 in
theorem isSimple_any (t b : List Int) (hg : goodP t b) (h0 : 0 < t.length) (w : World) : Calls Try.prog 151 #[.agg (pairC t b)] w (Tells w (simpleB t b)) := by
  rw [simple_any2 hg h0]
  have HPI := Lib.hid (fun w => piecesFirst_any t b hg h0 w)
  have hle := (pieces_bd false hg h0).1
  have HCO := Lib.hid (fun B w v ho => containsF_any (piecesL false t b) (by omega) B w v ho)
  have HP := Lib.hid (PairIn.new w t b)
  have HB := Lib.hid (Below.alloc1 w (.cells (pairC t b) 102))
  generalize piecesL false t b = L at *
  generalize L.any bigB = R at *
  clear hg h0
  go_enter Try.func151, Try.ntmps151
  go_wp2_with (first
    | (with_reducible refine wp_loadPair rfl (.tmp 1) rfl w.heap.size t b rfl HP.out ?_)
    | (go_at_call 149; ((with_reducible refine (HPI.out _).mono ?_); rintro e w1 ⟨v, rfl, ho, hb1⟩; obtain ⟨a1, c1, rfl, -, -⟩ := ho.form; have HO := Lib.hid ho; have HB1 := Lib.hid (Below.step HB.out hb1); clear ho hb1))
    | (go_at_call 203; ((with_reducible refine (HCO.out _ _ _ HO.out).mono ?_); rintro e w2 ⟨rfl, hb2⟩; have HB2 := Lib.hid (Below.step HB1.out hb2); clear hb2)))
  go_ret
  exact ⟨rfl, HB2.out⟩




end Go.Proofs.Ytogjclmmjdhfeab

namespace Go.Proofs.Ytogjclmmjdhfeab
open Go.RowKit
set_option linter.unusedSimpArgs false
set_option linter.unusedVariables false

theorem isCutCount_any (n : Int) (w : World) :
    Calls Try.prog 144 #[.int .i64 n] w fun e w' => e = .returned (.bool (inB n 1 4)) ∧ w = w' := by
  go_enter Try.func144, Try.ntmps144
  go_wp2
  all_goals go_ret
  all_goals (simp [inB]; omega)

set_option maxRecDepth 100000 in
set_option maxHeartbeats 4000000 in
theorem chosen_isSimple (ps : List (List Int × List Int)) (hgd : ∀ k, k < ps.length → ∀ w, Calls Try.prog 151 #[.agg (pairC (ps.getD k ([], [])).1 (ps.getD k ([], [])).2)] w (Tells w (simpleP (ps.getD k ([], []))))) (hn : ps.length ≤ 20000) (B : Nat) (w : World) (v : Value) (hown : OwnP B w v ps) :
    Calls Try.prog 150 #[v, .func (.func 151) #[] #[]] w (MadeP w (ps.filter simpleP)) := by
  have HCK := Lib.hid hgd
  have HFT := Lib.hid (fun k => filterP_take_succ simpleP ps k)
  have HFL : Hid (∀ k, ((ps.take k).filter simpleP).length ≤ ps.length) := fun k => Nat.le_trans (List.length_filter_le _ _) (by rw [List.length_take]; omega)
  have hfl : ps.filter simpleP = (ps.take ps.length).filter simpleP := by rw [List.take_length]
  rw [hfl]
  clear hfl hgd
  obtain ⟨a0, c0, rfl, hx1, hx2⟩ := hown.form
  unfold maxLen at hx2
  have HO := Lib.hid hown
  clear hown
  go_enter Try.func150, Try.ntmps150
  go_wp2_with fail
  go_loopw [5, 10] (fun o i wr => ∃ k : Nat, k ≤ ps.length ∧ i = .int .i64 (k : Int) ∧ OwnP w.heap.size wr o ((ps.take k).filter simpleP) ∧ Below w.heap.size w wr) (fun _ i _ => ps.length - (intOf i).toNat)
  case atStart => exact ⟨0, by omega, rfl, OwnP.nil _ _, Below.refl _ _⟩
  case round =>
    obtain ⟨k, hk, rfl, hown, hbel⟩ := hrel
    generalize wr = wc at *
    by_cases hlt : k < ps.length
    · obtain ⟨g, rfl, hy1, hy2, hy3, hrg, hth⟩ := (HO.out.below hbel).at (by omega)
      have hr := hrg k hlt
      have hsuc := HFT.out k hlt
      have hle := HFL.out k
      have hcall := HCK.out k hlt
      generalize simpleP (ps.getD k ([], [])) = M at *
      generalize ps.getD k ([], []) = p at *
      obtain ⟨t, b⟩ := p
      generalize (ps.take k).filter simpleP = S at *
      have HR := Lib.hid hr; have HCL := Lib.hid hcall; have HOQ := Lib.hid hown; have HBE := Lib.hid hbel; have HSU := Lib.hid hsuc
      have hsz := hbel.size
      clear hy1 hy2 hy3 hrg hth hr hcall hown hbel hsuc
      cases M with
      | true =>
        go_wp2_with (first
          | (with_reducible refine boxP_load rfl (.tmp 12) rfl g (k * 26) t b rfl HR.out ?_)
          | ((with_reducible refine wp_storePairN rfl (.tmp 7) (.tmp 13) rfl t b rfl rfl ?_); intro w5 hs5 hb5; have HS5 := Lib.hid hs5; have HB5 := Lib.hid hb5; clear hs5 hb5)
          | (with_reducible refine wp_loadPair rfl (.tmp 7) rfl wc.heap.size t b rfl HS5.out ?_)
          | (go_at_call 151; ((with_reducible refine (HCL.out _).mono ?_); rintro e w6 ⟨rfl, hb6⟩; have HS6 := Lib.hid (HS5.out.below hb6); have HB6 := Lib.hid (Below.step HB5.out hb6); clear hb6))
          | (with_reducible refine wp_loadPair rfl (.tmp 7) rfl wc.heap.size t b rfl HS6.out ?_)
          | (with_reducible refine wp_buildP1 _ rfl (.tmp 18) rfl t b rfl ?_)
          | (at_builtin; refine wp_appendPs _ rfl (.tmp 17) (.tmp 19) rfl w.heap.size w6.heap.size 1 1 _ S [(t, b)] rfl rfl rfl (fun j hj => built_cells w6 t b j hj) ((HOQ.out.below HB6.out).below (Below.alloc1 _ _)) (by simp; omega) (by have := HB6.out.size; simp; omega) ?_; intro o' w7 ho7 hg7 hb7 hw7; have HO7 := Lib.hid ho7; have HB7 := Lib.hid ((HBE.out.trans ((HB6.out.trans ((Below.alloc1 w6 (.cells (pairC t b) 102)).mono HB6.out.size)).mono hsz)).trans hb7); clear ho7 hg7 hb7 hw7))
        go_roundw
        case rel => exact ⟨k + 1, by omega, by go_num, by rw [HSU.out]; exact HO7.out, HB7.out⟩
        case measure => simp [intOf]; omega
      | false =>
        go_wp2_with (first
          | (with_reducible refine boxP_load rfl (.tmp 12) rfl g (k * 26) t b rfl HR.out ?_)
          | ((with_reducible refine wp_storePairN rfl (.tmp 7) (.tmp 13) rfl t b rfl rfl ?_); intro w5 hs5 hb5; have HS5 := Lib.hid hs5; have HB5 := Lib.hid hb5; clear hs5 hb5)
          | (with_reducible refine wp_loadPair rfl (.tmp 7) rfl wc.heap.size t b rfl HS5.out ?_)
          | (go_at_call 151; ((with_reducible refine (HCL.out _).mono ?_); rintro e w6 ⟨rfl, hb6⟩; have HB6 := Lib.hid (Below.step HB5.out hb6); clear hb6)))
        go_roundw
        case rel => exact ⟨k + 1, by omega, by go_num, by rw [HSU.out]; simpa using HOQ.out.below HB6.out, Below.step HBE.out HB6.out⟩
        case measure => simp [intOf]; omega
    · obtain rfl : k = ps.length := by omega
      obtain ⟨a5, c5, rfl, _⟩ := hown.form
      have HOQ := Lib.hid hown; have HBE := Lib.hid hbel
      clear hown hbel
      go_wp2_with fail
      go_ret
      exact ⟨_, rfl, HOQ.out, HBE.out⟩

set_option maxHeartbeats 1000000 in
theorem impl_CountSimple (x : Int) (w : World) : Calls Try.prog 71 #[.int .i64 x] w (GivesN w (res_CountSimple x) (ok_CountSimple x)) := by
  unfold res_CountSimple ok_CountSimple
  have HI := Lib.hid (fun w => isCutCount_any x w)
  cases hb : inB x 1 4 with
  | false =>
    rw [hb] at HI
    simp only [Bool.false_eq_true, if_false]
    clear hb
    go_enter Try.func71, Try.ntmps71
    go_wp2_with (go_at_call 144; refine (HI.out _).mono ?_; rintro e w' ⟨rfl, rfl⟩)
    go_ret2
    exact ⟨rfl, Below.refl _ _⟩
  | true =>
    rw [hb] at HI
    have h1 := inB_iff.1 hb
    obtain ⟨n, rfl⟩ := Int.eq_ofNat_of_zero_le (by omega : 0 ≤ x)
    simp only [if_true, Int.toNat_natCast]
    have hn : n ≤ 4 := by omega
    have HPO := Lib.hid (fun w => pairsOf_any n hn w)
    have HC := Lib.hid (fun B w v ho => chosen_isSimple (pairsN n) (fun k hk w => by
      have hg := pairsN_good (n := n) (by omega) (pairsN_at hk)
      exact isSimple_any _ _ hg.1 (by omega) w) (Nat.le_trans (pairsN_len hn) (by omega)) B w v ho)
    clear hb h1
    generalize pairsN n = L at *
    go_enter Try.func71, Try.ntmps71
    go_wp2_with (first
      | (go_at_call 144; refine (HI.out _).mono ?_; rintro e w' ⟨rfl, rfl⟩)
      | (go_at_call 148; ((with_reducible refine (HPO.out _).mono ?_); rintro e w1 ⟨pv, rfl, hop, hb1⟩; have HOP := Lib.hid hop; have HB1 := Lib.hid hb1; obtain ⟨qa, qc, rfl, -, -⟩ := hop.form; clear hop hb1))
      | (go_at_call 150; ((with_reducible refine (HC.out _ _ _ HOP.out).mono ?_); rintro e w2 ⟨mv, rfl, hom, hb2⟩; have HB2 := Lib.hid (Below.step HB1.out hb2); obtain ⟨ma, mc, rfl, -, -⟩ := hom.form; clear hom hb2)))
    go_ret2
    exact ⟨rfl, HB2.out⟩

set_option maxRecDepth 100000 in
set_option maxHeartbeats 4000000 in
theorem impl_CountByPieces (x : Int) (w : World) : Calls Try.prog 70 #[.int .i64 x] w (Gives w (res_CountByPieces x) (ok_CountByPieces x)) := by
  unfold res_CountByPieces ok_CountByPieces
  have HI := Lib.hid (fun w => isCutCount_any x w)
  cases hb : inB x 1 4 with
  | false =>
    rw [hb] at HI
    simp only [Bool.false_eq_true, if_false]
    clear hb
    go_enter Try.func70, Try.ntmps70
    go_wp2_with (go_at_call 144; refine (HI.out _).mono ?_; rintro e w' ⟨rfl, rfl⟩)
    go_ret2
    exact ⟨_, rfl, Own.nil _ _, Below.refl _ _⟩
  | true =>
    rw [hb] at HI
    have h1 := inB_iff.1 hb
    obtain ⟨n, rfl⟩ := Int.eq_ofNat_of_zero_le (by omega : 0 ≤ x)
    simp only [if_true, Int.toNat_natCast]
    have hn : n ≤ 4 := by omega
    have hn1 : 1 ≤ n := by omega
    have HPO := Lib.hid (fun w => pairsOf_any n hn w)
    have hlen := pairsN_len hn
    have HCK : Hid (∀ k, k < (pairsN n).length → ∀ w, Calls Try.prog 149 #[.agg (pairC ((pairsN n).getD k ([], [])).1 ((pairsN n).getD k ([], [])).2), .func (.func 139) #[] #[]] w (MadeP w (piecesL false ((pairsN n).getD k ([], [])).1 ((pairsN n).getD k ([], [])).2))) := fun k hk w => by
      have hg := pairsN_good (n := n) (by omega) (pairsN_at hk)
      exact piecesFirst_any _ _ hg.1 (by omega) w
    have HCL : Hid (∀ k, k < (pairsN n).length → (piecesL false ((pairsN n).getD k ([], [])).1 ((pairsN n).getD k ([], [])).2).length ≤ n) := fun k hk => by
      have hg := pairsN_good (n := n) (by omega) (pairsN_at hk)
      have := (pieces_len false hg.1 (by omega)).1
      omega
    have HTK : Hid (∀ k, k < (pairsN n).length → cntQ (List.replicate (n + 1) 0) ((pairsN n).take (k + 1)) = incQ (cntQ (List.replicate (n + 1) 0) ((pairsN n).take k)) ((pairsN n).getD k ([], []))) := by
      intro k hk
      rw [List.take_add_one, List.getElem?_eq_getElem hk, Option.toList_some, cntQ_snoc]
      simp [List.getD, hk]
    have hfull : cntQ (List.replicate (n + 1) 0) (pairsN n) = cntQ (List.replicate (n + 1) 0) ((pairsN n).take (pairsN n).length) := by rw [List.take_length]
    rw [hfull]
    clear hfull hb h1
    generalize pairsN n = PS at *
    have HBD : Hid (∀ k j, 0 ≤ (cntQ (List.replicate (n + 1) 0) (PS.take k)).getD j 0 ∧ (cntQ (List.replicate (n + 1) 0) (PS.take k)).getD j 0 ≤ 196) := by
      intro k j
      have := cntq_bd (n + 1) (PS.take k) j
      rw [List.length_take] at this
      omega
    have HLN : Hid (∀ k, (cntQ (List.replicate (n + 1) 0) (PS.take k)).length = n + 1) := fun k => by rw [cntQ_len, List.length_replicate]
    have HZ : Hid (cntQ (List.replicate (n + 1) 0) (PS.take 0) = List.replicate (n + 1) 0) := rfl
    go_enter Try.func70, Try.ntmps70
    go_wp2_with (first
      | (go_at_call 144; refine (HI.out _).mono ?_; rintro e w' ⟨rfl, rfl⟩)
      | (at_make; refine wp_make _ rfl _ _ rfl (n + 1) _ _ rfl rfl (by omega) (by omega) (by omega) ?_; intro w1 hown1 hbel1 hsz1; have HO1 := Lib.hid hown1; have HB1 := Lib.hid hbel1; clear hown1 hbel1)
      | (go_at_call 148; ((with_reducible refine (HPO.out _).mono ?_); rintro e w2 ⟨pv, rfl, hop, hb2⟩; obtain ⟨pa, pc, rfl, hp1, hp2⟩ := hop.form; unfold maxLen at hp2; have HOP := Lib.hid hop; have HO2 := Lib.hid (HO1.out.below hb2); have HB2 := Lib.hid (Below.step HB1.out hb2); clear hb2 hop)))
    have hlt1 : w.heap.size < w1.heap.size := (HO1.out.lt w.heap.size rfl).2
    go_loopw [16] (fun i wr => ∃ k : Nat, k ≤ PS.length ∧ i = .int .i64 (k : Int) ∧ Own w.heap.size wr (.slice (some ⟨w.heap.size, 0, none⟩) (n + 1) (n + 1)) (cntQ (List.replicate (n + 1) 0) (PS.take k)) ∧ OwnP w1.heap.size wr (.slice pa PS.length pc) PS ∧ Below w.heap.size w wr) (fun i _ => PS.length - (intOf i).toNat)
    case atStart => exact ⟨0, by omega, rfl, by rw [HZ.out]; exact HO2.out, HOP.out, HB2.out⟩
    case round =>
      obtain ⟨k, hk, rfl, hown, hps, hbel⟩ := hrel
      clear HO1 HO2 HOP HB1 HB2
      generalize wr = wc at *
      by_cases hlt : k < PS.length
      · obtain ⟨g, rfl, hx1, hx2, hx3, hrg, hth⟩ := hps.at (by omega)
        have hr := hrg k hlt
        have hsuc := HTK.out k hlt
        have hln := HLN.out k
        have hc := HCL.out k hlt
        have hcall := HCK.out k hlt
        have hbd := HBD.out k (piecesL false (PS.getD k ([], [])).1 (PS.getD k ([], [])).2).length
        unfold incQ at hsuc
        generalize PS.getD k ([], []) = p at *
        obtain ⟨t, b⟩ := p
        simp only at hr hsuc hc hcall hbd
        generalize hpl : piecesL false t b = PL at *
        generalize hcc : PL.length = c at *
        have HCC := Lib.hid hcc; clear hcc hpl
        generalize cntQ (List.replicate (n + 1) 0) (PS.take k) = S at *
        generalize hy : S.getD c 0 = y at *
        have hy0 := hbd.1; have hy1 := hbd.2
        have HR := Lib.hid hr; have HSU := Lib.hid hsuc; have HL2 := Lib.hid hln; have HC2 := Lib.hid hcall; have HO := Lib.hid hown; have HP := Lib.hid hps; have HBE := Lib.hid hbel; have HY := Lib.hid hy
        have hsz := hbel.size
        clear hx1 hx3 hrg hth hr hsuc hln hcall hbd hown hps hbel hy
        go_wp2_with (first
          | (with_reducible refine boxP_load rfl (.tmp 18) rfl g (k * 26) t b rfl HR.out ?_)
          | ((with_reducible refine wp_storePairN rfl (.tmp 6) (.tmp 19) rfl t b rfl rfl ?_); intro w5 hs5 hb5; have HS5 := Lib.hid hs5; have HB5 := Lib.hid hb5; clear hs5 hb5)
          | (with_reducible refine wp_loadPair rfl (.tmp 6) rfl wc.heap.size t b rfl HS5.out ?_)
          | (go_at_call 149; ((with_reducible refine (HC2.out _).mono ?_); rintro e w6 ⟨qv, rfl, hq, hb6⟩; obtain ⟨qa, qc, rfl, -, -⟩ := hq.form; rw [HCC.out]; have hb7 := Below.step HB5.out hb6; have ho6 := HO.out.below hb7; have hdst := ho6.cellAt c (by rw [HL2.out]; omega); rw [HY.out] at hdst; have hfr := ho6.frozenAt c; have hnew := ho6.stored c (y + 1); rw [← HSU.out] at hnew; have HN := Lib.hid hnew; have HP7 := Lib.hid ((HP.out.below hb7).grown (grown_setCell (b := w.heap.size) (i := c) (v := .int .i64 (y + 1))) (fun kk hkk e => by have h9 : some g = some kk := hkk; cases h9; cases e; omega)); have HB7 := Lib.hid ((Below.step HBE.out hb7).setCell (p := ⟨w.heap.size, c, none⟩) (Nat.le_refl _) (.int .i64 (y + 1))); clear hb6 hb7 ho6 hnew hq)))
        go_roundw
        case rel => exact ⟨k + 1, by omega, by go_num, HN.out, HP7.out, HB7.out⟩
        case measure => simp [intOf]; omega
      · obtain rfl : k = PS.length := by omega
        have HO := Lib.hid hown; have HBE := Lib.hid hbel
        clear hown hps hbel
        go_wp2_with fail
        go_ret2
        exact ⟨_, rfl, HO.out, HBE.out⟩

end Go.Proofs.Ytogjclmmjdhfeab

namespace Go.Proofs.Ytogjclmmjdhfeab
open Go.RowKit
set_option linter.unusedSimpArgs false
set_option linter.unusedVariables false

theorem OwnML.mono {lo lo' : Nat} {w : World} {v : Value} {es : List (Value × Value)} {ps : List (List Int × List Int)} (h : OwnML lo w v es ps) (hl : lo' ≤ lo) : OwnML lo' w v es ps := by
  refine ⟨⟨h.1.1, ?_⟩, h.2.1, fun i hi => ⟨(h.2.2 i hi).1.mono hl, (h.2.2 i hi).2.1.mono hl, (h.2.2 i hi).2.2⟩⟩
  rcases h.1.2 with hn | ⟨g, cap, cur, hv, hB, rest⟩
  · exact .inl hn
  · exact .inr ⟨g, cap, cur, hv, by omega, rest⟩
theorem Rd.grownA {w w' : World} {o u : Value} {l : List Int} (h : Rd w u l) (hg : w.grownBy w' o.ownBlock) (ha : ApartV o u) : Rd w' u l := by
  obtain ⟨a, c, rfl, h1, h2, h3, h4⟩ := h
  refine ⟨a, c, rfl, h1, h2, h3, ?_⟩
  rcases h4 with h4 | ⟨b, off, rfl, hc⟩
  · exact .inl h4
  · refine .inr ⟨b, off, rfl, fun k hk => ?_⟩
    rw [World.cell?_of_block (a := ⟨b, off + k, none⟩) (hg.block b (World.block_lt_of_cell? w _ (hc k hk)) (fun e => ha b e.symm rfl))]
    exact hc k hk
theorem pc_apart {lo g : Nat} {w : World} {o : Value} {es : List (Value × Value)} {ps : List (List Int × List Int)} {x : Int} (h : OwnML lo w o es ps) (hn : ps = [] → o = .slice none 0 0) (hc : w.cell? ⟨g, 0, none⟩ = some (.int .i64 x)) : some g ≠ o.ownBlock := by
  intro e
  by_cases hp : ps = []
  · rw [hn hp] at e; cases e
  · have hl : 0 < ps.length := by cases ps with | nil => exact absurd rfl hp | cons => simp
    obtain ⟨a, c, rfl, -, -⟩ := h.form
    obtain ⟨g2, rfl, e0, -⟩ := h.elem 0 hl
    have e : some g = some g2 := e
    simp only [Option.some.injEq] at e
    subst e
    rw [Nat.zero_mul, hc] at e0
    obtain ⟨p, q, r, hf⟩ := (h.2.2 0 hl).1.form'
    rw [hf] at e0
    cases e0
theorem cell_kept {w w' : World} {o : Value} {g i : Nat} {x : Value} (hg : w.grownBy w' o.ownBlock) (hne : some g ≠ o.ownBlock) (hc : w.cell? ⟨g, i, none⟩ = some x) : w'.cell? ⟨g, i, none⟩ = some x := by
  rw [World.cell?_of_block (a := ⟨g, i, none⟩) (hg.block g (World.block_lt_of_cell? w _ hc) hne)]
  exact hc
theorem step_appendML {ops : Array Oper} {o : Oper} {a : Act} {K : Act → World → Prop} {Q : Exit → Act → World → Prop} {E : Prop} (w : World)
    (hgd : o.guard = none) (s x : Operand) (hop : o.op = Op.call { callee := Callee.builtin Builtin.append, args := #[s, x], argTypes := #[84, 84] })
    (lo g : Nat) (v u1 u2 : Value) (es : List (Value × Value)) (ps : List (List Int × List Int)) (l1 l2 : List Int) (hs : a.eval s = v) (hx : a.eval x = .slice (some ⟨g, 0, none⟩) 1 1) (hc0 : w.cell? ⟨g, 0, none⟩ = some u1) (hc1 : w.cell? ⟨g, 1, none⟩ = some u2)
    (hown : OwnML lo w v es ps) (h1 : Own lo w u1 l1) (h2 : Own lo w u2 l2) (ha : ApartV u1 u2) (hlen : ps.length ≤ 1000000) (hB : lo ≤ w.heap.size)
    (hK : ∀ v' w', OwnML lo w' v' (es ++ [(u1, u2)]) (ps ++ [(l1, l2)]) → w.grownBy w' v.ownBlock → Below lo w w' → (∀ k, v'.ownBlock = some k → v.ownBlock = some k ∨ w.heap.size ≤ k) → K (a.put o.dst v') w') :
    if Region.wanted o (yielded ops a.tmps) = true then Oper.wp Try.prog o a w K Q else E := by
  have hw : Region.wanted o (yielded ops a.tmps) = true := by simp [Region.wanted, hgd]
  rw [if_pos hw]
  obtain ⟨i0, hi0, hz0, hz1, hz2⟩ := info_parts mea_zero
  have one : ∀ (u : Value) (l : List Int), Own lo w u l → u.oneCell' = true := by
    intro u l hu
    rcases hu.2 with ⟨rfl, _⟩ | ⟨g, cap, cur, rfl, _⟩ <;> rfl
  have hnews : ∀ j u, ([u1, u2] : List Value)[j]? = some u → w.cell? ((⟨g, 0, none⟩ : Addr).add j) = some u := by
    intro j u hj
    rw [Addr.add_mid, Nat.zero_add]
    have hlt : j < 2 := (List.getElem?_eq_some_iff.1 hj).1
    have : j = 0 ∨ j = 1 := by omega
    rcases this with rfl | rfl
    · simp at hj; subst hj; exact hc0
    · simp at hj; subst hj; exact hc1
  have hones : ∀ u ∈ ([u1, u2] : List Value), u.oneCell' = true := fun u hu => by
    simp at hu
    rcases hu with rfl | rfl
    · exact one _ _ h1
    · exact one _ _ h2
  obtain ⟨v', w', hr, r1, r2, _⟩ := run_append_own (P := Try.prog) w lo 84 o.type 26 i0 _ 2 48 Try.underlying84 hi0 hz0 hz1 hz2 rfl (by decide) v ps.length (cellsML es) hown.1 ⟨g, 0, none⟩ 1 1 [u1, u2] rfl hnews hones (by unfold maxLen; omega) (by omega) hB
  have h3 := append_where w lo 84 o.type 26 i0 _ 2 48 Try.underlying84 hi0 hz0 hz1 hz2 rfl (by decide) v ps.length (cellsML es) hown.1 ⟨g, 0, none⟩ 1 1 [u1, u2] rfl hnews hones (by unfold maxLen; omega) (by omega) hB v' w' hr
  unfold Oper.wp execOp
  simp only [hop, resolve, invoke, builtin, Sem.run_bind, Sem.run_pure, Result.andThen_ok, List.map_toArray, List.map_cons, List.map_nil, hs, hx, hr]
  exact hK v' w' (hown.snoc h1 h2 ha r1 r2) r2 (below_grown r2 hB fun k hk => (hown.1.lt k hk).1) h3

/-- what is cut off so far and what is left; the box that holds what is left is the call's first block -/
structure PcS (w : World) (last : Bool) (t b T B : List Int) (D : List (List Int × List Int)) (es : List (Value × Value)) (o v1 v2 : Value) (w' : World) : Prop where
  gd : goodP T B
  pos : 0 < T.length
  sum : D ++ piecesL last T B = piecesL last t b
  own : OwnML (w.heap.size + 1) w' o es D
  nil : D = [] → o = .slice none 0 0
  box : Box2 26 w' w.heap.size v1 v2
  r1 : Rd w' v1 T
  r2 : Rd w' v2 B
  a1 : ApartV o v1
  a2 : ApartV o v2
  bel : Below w.heap.size w w'
  lo : w.heap.size + 1 ≤ w'.heap.size
theorem PcS.below {w w1 w2 : World} {last : Bool} {t b T B : List Int} {D : List (List Int × List Int)} {es : List (Value × Value)} {o v1 v2 : Value} (h : PcS w last t b T B D es o v1 v2 w1) (hb : Below w1.heap.size w1 w2) : PcS w last t b T B D es o v1 v2 w2 :=
  ⟨h.gd, h.pos, h.sum, h.own.below hb, h.nil, h.box.below hb, h.r1.below hb, h.r2.below hb, h.a1, h.a2, Below.step h.bel hb, Nat.le_trans h.lo hb.size⟩
theorem PcS.len {w w1 : World} {last : Bool} {t b T B : List Int} {D : List (List Int × List Int)} {es : List (Value × Value)} {o v1 v2 : Value} (h : PcS w last t b T B D es o v1 v2 w1) (hl : (piecesL last t b).length ≤ 6) : D.length ≤ 6 := by
  have e := congrArg List.length h.sum
  rw [List.length_append] at e
  omega
/-- behind an append: what is left has not moved -/
structure PcT (w : World) (T B : List Int) (D : List (List Int × List Int)) (es : List (Value × Value)) (o v1 v2 : Value) (gq : Nat) (x y : Int) (w' : World) : Prop where
  own : OwnML (w.heap.size + 1) w' o es D
  box : Box2 26 w' w.heap.size v1 v2
  r1 : Rd w' v1 T
  r2 : Rd w' v2 B
  a1 : ApartV o v1
  a2 : ApartV o v2
  d0 : w'.cell? ⟨gq, 0, none⟩ = some (.int .i64 x)
  d1 : w'.cell? ⟨gq, 1, none⟩ = some (.int .i64 y)
  bel : Below w.heap.size w w'
  lo : w.heap.size + 1 ≤ w'.heap.size
theorem rd_lt {w : World} {u : Value} {l : List Int} (h : Rd w u l) (hl : 0 < l.length) : ∀ k, u.ownBlock = some k → k < w.heap.size := by
  intro k hk
  obtain ⟨a, c, rfl, -, -, -, h4⟩ := h
  rcases h4 with rfl | ⟨b, off, rfl, hc⟩
  · simp at hl
  · have e : some b = some k := hk
    simp only [Option.some.injEq] at e
    subst e
    exact World.block_lt_of_cell? w _ (hc 0 hl)
theorem PcS.app {w wa w5 w7 : World} {A : Obj} {last : Bool} {t b T B : List Int} {D D' : List (List Int × List Int)} {es es' : List (Value × Value)} {o o' v1 v2 : Value} {gq : Nat} {x y : Int} (h : PcS w last t b T B D es o v1 v2 wa) (hb : Below wa.heap.size wa w5) (hO : OwnML (w.heap.size + 1) w7 o' es' D')
    (hg : (w5.alloc A).grownBy w7 o.ownBlock) (hw : ∀ k, o'.ownBlock = some k → o.ownBlock = some k ∨ (w5.alloc A).heap.size ≤ k) (hl : Below (w.heap.size + 1) (w5.alloc A) w7) (hne : some gq ≠ o.ownBlock) (d0 : wa.cell? ⟨gq, 0, none⟩ = some (.int .i64 x)) (d1 : wa.cell? ⟨gq, 1, none⟩ = some (.int .i64 y)) :
    PcT w T B D' es' o' v1 v2 gq x y w7 := by
  have hB : Below wa.heap.size wa (w5.alloc A) := Below.step hb (Below.alloc1 _ _)
  have hz := h.lo
  have hs := hB.size
  have hl1 := h.pos
  have hl2 : 0 < B.length := by have := h.gd.2.2; omega
  have k1 := rd_lt h.r1 hl1
  have k2 := rd_lt h.r2 hl2
  have kc : ∀ i v, wa.cell? ⟨gq, i, none⟩ = some v → w7.cell? ⟨gq, i, none⟩ = some v := fun i v hc => cell_kept hg hne ((hB.cell (p := ⟨gq, i, none⟩) (World.block_lt_of_cell? wa _ hc)).trans hc)
  refine ⟨hO, ?_, (h.r1.below hB).grownA hg h.a1, (h.r2.below hB).grownA hg h.a2, fun k hk hk' => ?_, fun k hk hk' => ?_, kc _ _ d0, kc _ _ d1, (Below.step h.bel hB).trans (hl.mono (Nat.le_succ _)), by have := hg.size; omega⟩
  · exact (h.box.below hB).grown hg (fun e => by have := (h.own.1.lt _ e.symm).1; omega)
  · rcases hw k hk with e | e
    · exact h.a1 k e hk'
    · have := k1 k hk'; omega
  · rcases hw k hk with e | e
    · exact h.a2 k e hk'
    · have := k2 k hk'; omega
theorem PcT.next {w wa w5 : World} {last : Bool} {t b T B T2 B2 : List Int} {D : List (List Int × List Int)} {es : List (Value × Value)} {o v1 v2 n1 n2 : Value} {gq : Nat} {x y : Int} (h : PcT w T B D es o v1 v2 gq x y wa) (hb : Below wa.heap.size wa w5) (h1 : Own wa.heap.size w5 n1 T2) (h2 : Own wa.heap.size w5 n2 B2)
    (hg : goodP T2 B2) (hp : 0 < T2.length) (hs : D ++ piecesL last T2 B2 = piecesL last t b) (hn : D ≠ []) : PcS w last t b T2 B2 D es o n1 n2 ((w5.setCell ⟨w.heap.size, 0, none⟩ n1).setCell ⟨w.heap.size, 1, none⟩ n2) := by
  have hz := h.lo
  have hlt : w.heap.size < wa.heap.size := by omega
  have hk : ∀ (v : Value), OwnML (w.heap.size + 1) w5 o es D := fun _ => h.own.below hb
  have hgr : w5.grownBy ((w5.setCell ⟨w.heap.size, 0, none⟩ n1).setCell ⟨w.heap.size, 1, none⟩ n2) (some w.heap.size) := grown_trans grown_setCell grown_setCell
  have ho : OwnML (w.heap.size + 1) ((w5.setCell ⟨w.heap.size, 0, none⟩ n1).setCell ⟨w.heap.size, 1, none⟩ n2) o es D := by
    have h5 := h.own.below hb
    refine ⟨World.ownsRow.kept h5.1 hgr ?_, h5.2.1, fun i hi => ⟨(h5.2.2 i hi).1.grown hgr (fun k hk e => by have := ((h5.2.2 i hi).1.lt k hk).1; simp at e; omega), (h5.2.2 i hi).2.1.grown hgr (fun k hk e => by have := ((h5.2.2 i hi).2.1.lt k hk).1; simp at e; omega), (h5.2.2 i hi).2.2⟩⟩
    cases e : o.ownBlock with
    | none => exact .inl rfl
    | some k => exact .inr fun e' => by have := (h5.1.lt k e).1; simp at e'; omega
  refine ⟨hg, hp, hs, ho, fun e => absurd e hn, ((h.box.below hb).set0 n1).set1 n2, (h1.set2 hlt n1 n2).rd, (h2.set2 hlt n1 n2).rd, fun k hk hk' => ?_, fun k hk hk' => ?_, ((Below.step h.bel hb).setCell (p := ⟨w.heap.size, 0, none⟩) (Nat.le_refl _) n1).setCell (p := ⟨w.heap.size, 1, none⟩) (Nat.le_refl _) n2, by have := hb.size; simp; omega⟩
  · have := (h.own.1.lt k hk).2; have := (h1.lt k hk').1; omega
  · have := (h.own.1.lt k hk).2; have := (h2.lt k hk').1; omega
set_option maxRecDepth 100000 in
set_option maxHeartbeats 4000000 in
theorem siPieces_any (last : Bool) (t b : List Int) (hg : goodP t b) (h0 : 0 < t.length) (w : World) (u1 u2 : Value) (h1 : Rd w u1 t) (h2 : Rd w u2 b) :
    Calls Try.prog 154 #[.agg #[u1, u2], .bool last] w (MadeML w (piecesL last t b)) := by
  have B1 : Below w.heap.size w (w.alloc (.cells #[u1, u2] 26)) := Below.alloc1 w _
  have HLEN := Lib.hid (pieces_bd last hg h0).1
  have HP0 : Hid (PcS w last t b t b [] [] (.slice none 0 0) u1 u2 (w.alloc (.cells #[u1, u2] 26))) :=
    ⟨hg, h0, by simp, OwnML.nil _ _, fun _ => rfl, Box2.new _ w u1 u2, h1.below B1, h2.below B1, ApartV.nil _, ApartV.nil _, B1, by simp⟩
  have HSH0 := Lib.hid (siShortest_any last t b hg.2.2 (pair12 hg).1 _ u1 u2 (h1.below B1) (h2.below B1))
  have k0 := HP0.out.box.c0; have k1 := HP0.out.box.c1
  have HLT : Hid (t.length ≤ 12) := (pair12 hg).1
  clear B1 h1 h2 hg h0
  go_enter Try.func154, Try.ntmps154
  go_wp2_with fail
  refine HSH0.out.mono ?_
  rintro e w1 ⟨v, rfl, hv, hb1⟩
  have HP1 := Lib.hid (HP0.out.below hb1)
  have HV := Lib.hid hv
  clear hb1 k0 k1 hv HP0 HSH0
  go_wp2_with fail
  go_loopg [5, 6] t.length (fun g o s wr => ∃ (T B : List Int) (D : List (List Int × List Int)) (es : List (Value × Value)) (v1 v2 : Value), Hid (PcS w last t b T B D es o v1 v2 wr) ∧ Hid (ShV T B last wr s) ∧ Hid (T.length ≤ g))
  case atStart => exact ⟨t, b, [], [], u1, u2, HP1, HV, Nat.le_refl _⟩
  case round =>
    obtain ⟨T, B, D, es, v1, v2, HS, HV, HG⟩ := hrel
    clear HP1
    generalize wr = wa at *
    have hdl := HS.out.len HLEN.out
    have hgd := HS.out.gd
    obtain ⟨a1, n1, c1, rfl⟩ : ∃ a n c, v1 = .slice a n c := by obtain ⟨a, c, e, -⟩ := HS.out.r1; exact ⟨a, _, c, e⟩
    obtain ⟨a2, n2, c2, rfl⟩ : ∃ a n c, v2 = .slice a n c := by obtain ⟨a, c, e, -⟩ := HS.out.r2; exact ⟨a, _, c, e⟩
    have k0 := HS.out.box.c0; have k1 := HS.out.box.c1
    rcases HV.out with ⟨rfl, hs⟩ | ⟨q, gq, cq, rfl, hs, d0, d1⟩
    · have HE : Hid (D ++ [(T, B)] = piecesL last t b) := by show _ = _; rw [← HS.out.sum, pieces_none hs]
      have HL1 := Lib.hid (fun w h => l1Own_cut (.slice a1 n1 c1) T w h (by have := (pair12 hgd).1; omega))
      have HL2 := Lib.hid (fun w h => l1Own_cut (.slice a2 n2 c2) B w h (by have := (pair12 hgd).2; omega))
      clear hs hgd HV
      have hz := HS.out.lo
      go_wp2_with fail
      have b0 : Below wa.heap.size wa wa.drew := (Below.refl _ wa).drew
      go_region_law (first
        | (refine step_appendML _ (by rfl) (.tmp 35) (.tmp 43) (by rfl) (w.heap.size + 1) _ _ (.slice r1 r2 r3) (.slice s1 s2 s3) es D T B (by rfl) (by rfl) (cells_new w6 _ _ _).1 (cells_new w6 _ _ _).2 ((HS.out.own.below HB6.out).below (Below.alloc1 _ _)) (HOL6.out.below (Below.alloc1 _ _)) (HOM6.out.below (Below.alloc1 _ _)) HAP.out (by omega) (by have := HB6.out.size; simp; omega) ?_; intro o' w7 ho7 hg7 hb7 hw7; obtain ⟨a7, c7, rfl, -, -⟩ := ho7.form; have HO7 := Lib.hid ho7; have HB7 := Lib.hid (((HS.out.bel.trans (HB6.out.mono (by omega))).alloc (by have := HB6.out.size; omega) (.cells #[.slice r1 r2 r3, .slice s1 s2 s3] 26)).trans (hb7.mono (by omega))); clear ho7 hg7 hb7 hw7)
        | (go_simp; go_at_call_of 110 (Value.slice a1 n1 c1); ((with_reducible refine (HL1.out _ (HS.out.r1.below b0)).mono ?_); rintro e' w5 ⟨lv, rfl, hol, hb5⟩; obtain ⟨r1, r2, r3, rfl⟩ := hol.form'; have HOL5 := Lib.hid hol; have HB5 := Lib.hid (b0.trans hb5); have k2 := (HS.out.box.below HB5.out).c1; clear hb5 hol))
        | (go_simp; go_at_call 110; ((with_reducible refine (HL2.out _ (HS.out.r2.below HB5.out)).mono ?_); rintro e' w6 ⟨mv, rfl, hom, hb6⟩; have HAP : Hid (ApartV (.slice r1 r2 r3) mv) := (fun k hk hk' => by have h1 := (HOL5.out.lt k hk).2; have h2 := (hom.lt k hk').1; omega); obtain ⟨s1, s2, s3, rfl⟩ := hom.form'; have HOL6 := Lib.hid ((HOL5.out.below hb6).mono (B' := w.heap.size + 1) hz); have HOM6 := Lib.hid (hom.mono (B' := w.heap.size + 1) (Nat.le_trans hz HB5.out.size)); have HB6 := Lib.hid (Below.step HB5.out hb6); clear hb6 hom)))
      all_goals
        go_wp2_with fail
        go_ret
        have e7 : (D ++ [(T, B)]).length = D.length + 1 := by simp
        rw [e7, HE.out] at HO7
        exact ⟨_, _, rfl, HO7.out.mono (Nat.le_succ _), HB7.out⟩
    · obtain ⟨x, y⟩ := q
      have hf := short_fits hs
      have hpr := hf.1
      unfold proper at hpr
      simp only at hpr d0 d1
      have hgo := inner_good hgd hpr.1 hpr.2.1 hf.2
      have HIN := Lib.hid (fun w h1 h2 => siInside_any T B x y hgd hpr.1 hpr.2.1 w (.slice a1 n1 c1) (.slice a2 n2 c2) h1 h2)
      have HOU := Lib.hid (fun w h1 h2 => siOutside_any T B x y hgd hpr.1 hpr.2.1 w (.slice a1 n1 c1) (.slice a2 n2 c2) h1 h2)
      have hol := outerL_length (l := T) hpr.1 hpr.2.1
      have HE : Hid ((D ++ [(innerL T x y, innerL B x y)]) ++ piecesL last (outerL T x y) (outerL B x y) = piecesL last t b) := by show _ = _; rw [← HS.out.sum, pieces_some hs, List.append_assoc]; rfl
      have HN : Hid (goodP (outerL T x y) (outerL B x y) ∧ 0 < (outerL T x y).length ∧ (outerL T x y).length < T.length) := ⟨hgo.2, by omega, by omega⟩
      have HSHN := Lib.hid (fun w v1 v2 h1 h2 => siShortest_any last (outerL T x y) (outerL B x y) hgo.2.2.2 (pair12 hgo.2).1 w v1 v2 h1 h2)
      generalize innerL T x y = T1 at *
      generalize innerL B x y = B1 at *
      generalize outerL T x y = T2 at *
      generalize outerL B x y = B2 at *
      have hne := pc_apart HS.out.own HS.out.nil d0
      have HNE := Lib.hid hne; have HD0 := Lib.hid d0; have HD1 := Lib.hid d1
      clear hs hgd hf hpr hgo hol hne HV
      have hz := HS.out.lo
      have b0 : Below wa.heap.size wa wa.drew := (Below.refl _ wa).drew
      go_upto_region 5 with (fail)
      go_cut [5] (fun o' wx => ∃ es', Hid (PcT w T B (D ++ [(T1, B1)]) es' o' (.slice a1 n1 c1) (.slice a2 n2 c2) gq (x : Int) (y : Int) wx))
      case first =>
        go_region_law (first
          | (refine step_appendML _ (by rfl) (.tmp 16) (.tmp 25) (by rfl) (w.heap.size + 1) _ _ (.slice r1 r2 r3) (.slice s1 s2 s3) es D T1 B1 (by rfl) (by rfl) (cells_new w5 _ _ _).1 (cells_new w5 _ _ _).2 ((HS.out.own.below HB5.out).below (Below.alloc1 _ _)) (HOL5.out.below (Below.alloc1 _ _)) (HOM5.out.below (Below.alloc1 _ _)) HAP.out (by omega) (by have := HB5.out.size; simp; omega) ?_; intro o' w7 ho7 hg7 hb7 hw7; have HO7 := Lib.hid ho7; have HGR := Lib.hid hg7; have HWH := Lib.hid hw7; have HLO7 := Lib.hid hb7; clear ho7 hg7 hb7 hw7)
          | (go_simp; go_at_call 127; ((with_reducible refine (HIN.out _ (HS.out.r1.below b0) (HS.out.r2.below b0)).mono ?_); rintro e' w5 ⟨lv, mv, rfl, hol, hom, hap, hb5⟩; obtain ⟨r1, r2, r3, rfl⟩ := hol.form'; obtain ⟨s1, s2, s3, rfl⟩ := hom.form'; have HAP := Lib.hid hap; have HOL5 := Lib.hid (hol.mono (B' := w.heap.size + 1) hz); have HOM5 := Lib.hid (hom.mono (B' := w.heap.size + 1) hz); have HB5 := Lib.hid (b0.trans hb5); clear hb5 hol hom hap)))
        all_goals
          have HF := Lib.hid (PcS.app HS.out HB5.out HO7.out HGR.out HWH.out HLO7.out HNE.out HD0.out HD1.out)
          clear HO7 HGR HWH HLO7
          go_wp2_with fail
          go_meet
          exact ⟨_, HF⟩
      obtain ⟨es', HT⟩ := hcut
      rename_i o'
      generalize wc = wb at *
      clear k0 k1 d0 d1 b0
      have k0 := HT.out.box.c0; have k1 := HT.out.box.c1; have d0 := HT.out.d0; have d1 := HT.out.d1
      have b0 : Below wb.heap.size wb wb.drew := (Below.refl _ wb).drew
      go_upto_region 6 with (fail)
      go_region_with (go_at_call 129; ((with_reducible refine (HOU.out _ (HT.out.r1.below b0) (HT.out.r2.below b0)).mono ?_); rintro e' w5 ⟨lv, mv, rfl, hol, hom, hap, hb5⟩; obtain ⟨r1, r2, r3, rfl⟩ := hol.form'; obtain ⟨s1, s2, s3, rfl⟩ := hom.form'; have HB5 := Lib.hid (b0.trans hb5); have HF := Lib.hid (PcT.next (last := last) (t := t) (b := b) HT.out HB5.out hol hom HN.out.1 HN.out.2.1 HE.out (by simp)); have q0 := (HT.out.box.below HB5.out).c0; have q1 := (HT.out.box.below HB5.out).c1; have q2 := (HT.out.box.below HB5.out).free 0; have q3 := (HT.out.box.below HB5.out).free 1; clear hb5 hol hom hap))
      all_goals
        clear k0 k1 d0 d1 b0 q0 q1 q2 q3
        generalize ((w5.setCell ⟨w.heap.size, 0, none⟩ (.slice r1 r2 r3)).setCell ⟨w.heap.size, 1, none⟩ (.slice s1 s2 s3)) = wd at *
        have k0 := HF.out.box.c0; have k1 := HF.out.box.c1
        have HSX := Lib.hid (HSHN.out wd _ _ HF.out.r1 HF.out.r2)
        go_wp2_with fail
        refine HSX.out.mono ?_
        rintro e wf ⟨v, rfl, hv, hbf⟩
        have HSF := Lib.hid (HF.out.below hbf); have HVF := Lib.hid hv
        clear hbf hv k0 k1
        go_wp2_with fail
        go_roundg (gk - 1)
        case measure => have := HG.out; have := HS.out.pos; omega
        case rel => exact ⟨T2, B2, _, es', _, _, HSF, HVF, by show _ ≤ _; have := HN.out.2.2; have := HG.out; omega⟩

end Go.Proofs.Ytogjclmmjdhfeab

namespace Go.Proofs.Ytogjclmmjdhfeab
open Go.RowKit
set_option linter.unusedSimpArgs false
set_option linter.unusedVariables false

theorem OwnML.cntStore {lo g : Nat} {w : World} {v : Value} {es : List (Value × Value)} {ps : List (List Int × List Int)} (h : OwnML lo w v es ps) (hg : g < lo) (i : Nat) (x : Value) : OwnML lo (w.setCell ⟨g, i, none⟩ x) v es ps := by
  have hgr : w.grownBy (w.setCell ⟨g, i, none⟩ x) (some g) := grown_setCell
  refine ⟨World.ownsRow.kept h.1 hgr ?_, h.2.1, fun j hj => ⟨(h.2.2 j hj).1.grown hgr (fun k hk e => by have := ((h.2.2 j hj).1.lt k hk).1; simp at e; omega), (h.2.2 j hj).2.1.grown hgr (fun k hk e => by have := ((h.2.2 j hj).2.1.lt k hk).1; simp at e; omega), (h.2.2 j hj).2.2⟩⟩
  cases e : v.ownBlock with
  | none => exact .inl rfl
  | some k => exact .inr fun e' => by have := (h.1.lt k e).1; simp at e'; omega

theorem RdML.mono {lo lo' n : Nat} {w : World} {v : Value} {vs : List Value} {ls : List (List Int)} (h : RdML lo w v n vs ls) (hl : lo' ≤ lo) : RdML lo' w v n vs ls := by
  refine ⟨h.len, h.two, ⟨h.row.1, ?_⟩, fun i hi => (h.own i hi).mono hl⟩
  rcases h.row.2 with hn | ⟨g, cap, cur, hv, hB, rest⟩
  · exact .inl hn
  · exact .inr ⟨g, cap, cur, hv, by omega, rest⟩



set_option maxHeartbeats 2000000 in
theorem siSimple_any (t b : List Int) (hg : goodP t b) (h0 : 0 < t.length) (w : World) (u1 u2 : Value) (h1 : Rd w u1 t) (h2 : Rd w u2 b) :
    Calls Try.prog 155 #[.agg #[u1, u2]] w (Tells w (simpleB t b)) := by
  have hA := Box2.new 26 w u1 u2
  have B1 : Below w.heap.size w (w.alloc (.cells #[u1, u2] 26)) := Below.alloc1 w _
  have k0 := hA.c0; have k1 := hA.c1
  have HP := Lib.hid (fun w h1 h2 => siPieces_any false t b hg h0 w u1 u2 h1 h2)
  have HB := Lib.hid B1; have HA := Lib.hid hA; have H1 := Lib.hid (h1.below B1); have H2 := Lib.hid (h2.below B1)
  obtain ⟨a1, c1, rfl, hc1, hm1, _⟩ := h1
  obtain ⟨a2, n2, c2, rfl⟩ : ∃ a n c, u2 = .slice a n c := by obtain ⟨a, c, e, -⟩ := h2; exact ⟨a, _, c, e⟩
  unfold maxLen at hm1
  have hle := (pieces_bd false hg h0).1
  unfold simpleB
  have h12 := (pair12 hg).1
  generalize piecesL false t b = M at *
  generalize t.length = n at *
  clear hA B1 h2 hg h0
  obtain ⟨h, hh⟩ : ∃ h, n / 2 = h := ⟨_, rfl⟩
  have he : (n : Int) / 2 = (h : Int) := by omega
  have hw : IntKind.i64.wrap (h : Int) = (h : Int) := IntWalk.i64_in _ (by omega)
  rw [hh]
  clear hh
  have hdec : decide (M.length = h) = ((M.length : Int) == (h : Int)) := by rw [Bool.eq_iff_iff]; simp; omega
  rw [hdec]
  clear hdec
  go_enter Try.func155, Try.ntmps155
  go_wp2_with fail
  generalize w.alloc (.cells #[.slice a1 n c1, .slice a2 n2 c2] 26) = W1 at *
  have b0 : Below W1.heap.size W1 W1.drew := (Below.refl _ W1).drew
  go_region_with (go_at_call 154; ((with_reducible refine (HP.out _ (H1.out.below b0) (H2.out.below b0)).mono ?_); rintro e' w5 ⟨v, es, rfl, ho, hb5⟩; obtain ⟨a5, c5, rfl, -, -⟩ := ho.form; have HB5 := Lib.hid (b0.trans hb5); have q0 := (HA.out.below HB5.out).c0; clear ho hb5))
  all_goals
    go_wp2
    go_ret
    exact ⟨rfl, Below.step HB.out HB5.out⟩



set_option maxHeartbeats 2000000 in
set_option maxRecDepth 100000 in
theorem spec_CountSimple (x : Int) (w : World) : Calls Try.prog 80 #[.int .i64 x] w (GivesN w (res_CountSimple x) (ok_CountSimple x)) := by
  unfold res_CountSimple ok_CountSimple
  have HI := Lib.hid (fun w => l1In_any x 1 4 w)
  cases hb : inB x 1 4 with
  | false =>
    rw [hb] at HI
    simp only [Bool.false_eq_true, if_false]
    clear hb
    go_enter Try.func80, Try.ntmps80
    go_wp2_with (go_at_call 89; refine (HI.out _).mono ?_; rintro e w' ⟨rfl, rfl⟩)
    go_ret2
    exact ⟨rfl, Below.refl _ _⟩
  | true =>
    rw [hb] at HI
    have h1 := inB_iff.1 hb
    obtain ⟨n, rfl⟩ := Int.eq_ofNat_of_zero_le (by omega : 0 ≤ x)
    simp only [if_true, Int.toNat_natCast]
    have hn : n ≤ 5 := by omega
    have HP := Lib.hid (fun w => siPairs_any n hn w)
    have hlen := pairsN_len5 hn
    have HW : Hid (∀ k, k < (pairsN n).length → ∀ w u1 u2, Rd w u1 ((pairsN n).getD k ([], [])).1 → Rd w u2 ((pairsN n).getD k ([], [])).2 → Calls Try.prog 155 #[.agg #[u1, u2]] w (Tells w (simpleP ((pairsN n).getD k ([], []))))) := fun k hk w u1 u2 h1 h2 => by
      have hg := pairsN_good (n := n) (by omega) (pairsN_at hk)
      exact siSimple_any _ _ hg.1 (by have := inB_iff.1 (by assumption : inB (n : Int) 1 4 = true); omega) w u1 u2 h1 h2
    have HTF := Lib.hid (fun k hk => takeP_filter simpleP (pairsN n) k hk)
    have HFL : Hid (∀ k, (((pairsN n).take k).filter simpleP).length ≤ 1764) := fun k => Nat.le_trans (List.length_filter_le _ _) (by rw [List.length_take]; omega)
    have hfull : (pairsN n).filter simpleP = ((pairsN n).take (pairsN n).length).filter simpleP := by rw [List.take_length]
    rw [hfull]
    clear hfull hb h1
    generalize pairsN n = L at *
    go_enter Try.func80, Try.ntmps80
    go_wp2_with (first
      | (go_at_call 89; refine (HI.out _).mono ?_; rintro e w' ⟨rfl, rfl⟩)
      | (go_at_call 147; ((with_reducible refine (HP.out _).mono ?_); rintro e w1 ⟨v, es, rfl, ho, hb1⟩; obtain ⟨a1, c1, rfl, hc1, hm1⟩ := ho.form; unfold maxLen at hm1; have HO := Lib.hid ho; have HB1 := Lib.hid hb1; clear ho hb1)))
    go_loopw [4, 13] (fun o i wr => ∃ k : Nat, k ≤ L.length ∧ i = .int .i64 (k : Int) ∧ o = .int .i64 ((((L.take k).filter simpleP).length : Nat) : Int) ∧ Hid (Below w1.heap.size w1 wr)) (fun _ i _ => L.length - (intOf i).toNat)
    case atStart => exact ⟨0, by omega, rfl, by simp, Below.refl _ _⟩
    case round =>
      obtain ⟨k, hk, rfl, rfl, HBE⟩ := hrel
      generalize wr = wb at *
      by_cases hlt : k < L.length
      · obtain ⟨g, rfl, e0, e1, r0, r1⟩ := (HO.out.below HBE.out).elem k hlt
        have htf := HTF.out k hlt
        have hfl := HFL.out k
        have hw := HW.out k hlt
        generalize L.getD k ([], []) = p at *
        generalize ((L.take k).filter simpleP).length = m at *
        generalize (es.getD k noV).1 = u1 at *
        generalize (es.getD k noV).2 = u2 at *
        obtain ⟨x1, x2, x3, rfl⟩ : ∃ a n c, u1 = .slice a n c := by obtain ⟨a, c, e, -⟩ := r0; exact ⟨a, _, c, e⟩
        obtain ⟨y1, y2, y3, rfl⟩ : ∃ a n c, u2 = .slice a n c := by obtain ⟨a, c, e, -⟩ := r1; exact ⟨a, _, c, e⟩
        have HW1 := Lib.hid hw; have HTF1 := Lib.hid htf; have R0 := Lib.hid r0; have R1 := Lib.hid r1
        clear hw htf r0 r1
        cases hp : simpleP p with
        | true =>
          rw [hp] at HW1 HTF1
          clear hp
          go_wp2_with (go_at_call 155; ((with_reducible refine (HW1.out _ _ _ (R0.out.below (Below.alloc1 wb _)) (R1.out.below (Below.alloc1 wb _))).mono ?_); rintro e w5 ⟨rfl, hb5⟩; have HB5 := Lib.hid (Below.step HBE.out (Below.step (Below.alloc1 wb _) hb5)); clear hb5))
          go_roundw
          case rel => exact ⟨k + 1, by omega, by go_num, by rw [HTF1.out]; go_num, HB5.out⟩
          case measure => simp [intOf]; omega
        | false =>
          rw [hp] at HW1 HTF1
          clear hp
          go_wp2_with (go_at_call 155; ((with_reducible refine (HW1.out _ _ _ (R0.out.below (Below.alloc1 wb _)) (R1.out.below (Below.alloc1 wb _))).mono ?_); rintro e w5 ⟨rfl, hb5⟩; have HB5 := Lib.hid (Below.step HBE.out (Below.step (Below.alloc1 wb _) hb5)); clear hb5))
          go_roundw
          case rel => exact ⟨k + 1, by omega, by go_num, by rw [HTF1.out]; simp, HB5.out⟩
          case measure => simp [intOf]; omega
      · obtain rfl : k = L.length := by omega
        go_wp2
        go_ret2
        exact ⟨rfl, Below.step HB1.out HBE.out⟩

set_option maxRecDepth 100000 in
set_option maxHeartbeats 4000000 in
theorem spec_CountByPieces (x : Int) (w : World) : Calls Try.prog 78 #[.int .i64 x] w (Gives w (res_CountByPieces x) (ok_CountByPieces x)) := by
  unfold res_CountByPieces ok_CountByPieces
  have HI := Lib.hid (fun w => l1In_any x 1 4 w)
  cases hb : inB x 1 4 with
  | false =>
    rw [hb] at HI
    simp only [Bool.false_eq_true, if_false]
    clear hb
    go_enter Try.func78, Try.ntmps78
    go_wp2_with (go_at_call 89; refine (HI.out _).mono ?_; rintro e w' ⟨rfl, rfl⟩)
    go_ret2
    exact ⟨_, rfl, Own.nil _ _, Below.refl _ _⟩
  | true =>
    rw [hb] at HI
    have h1 := inB_iff.1 hb
    obtain ⟨n, rfl⟩ := Int.eq_ofNat_of_zero_le (by omega : 0 ≤ x)
    simp only [if_true, Int.toNat_natCast]
    have hn : n ≤ 4 := by omega
    have hn1 : 1 ≤ n := by omega
    have HP := Lib.hid (fun w => siPairs_any n (by omega) w)
    have hlen := pairsN_len hn
    have HCK : Hid (∀ k, k < (pairsN n).length → ∀ w u1 u2, Rd w u1 ((pairsN n).getD k ([], [])).1 → Rd w u2 ((pairsN n).getD k ([], [])).2 → Calls Try.prog 154 #[.agg #[u1, u2], .bool false] w (MadeML w (piecesL false ((pairsN n).getD k ([], [])).1 ((pairsN n).getD k ([], [])).2))) := fun k hk w u1 u2 h1 h2 => by
      have hg := pairsN_good (n := n) (by omega) (pairsN_at hk)
      exact siPieces_any false _ _ hg.1 (by omega) w u1 u2 h1 h2
    have HCL : Hid (∀ k, k < (pairsN n).length → (piecesL false ((pairsN n).getD k ([], [])).1 ((pairsN n).getD k ([], [])).2).length ≤ n) := fun k hk => by
      have hg := pairsN_good (n := n) (by omega) (pairsN_at hk)
      have := (pieces_len false hg.1 (by omega)).1
      omega
    have HTK : Hid (∀ k, k < (pairsN n).length → cntQ (List.replicate (n + 1) 0) ((pairsN n).take (k + 1)) = incQ (cntQ (List.replicate (n + 1) 0) ((pairsN n).take k)) ((pairsN n).getD k ([], []))) := by
      intro k hk
      rw [List.take_add_one, List.getElem?_eq_getElem hk, Option.toList_some, cntQ_snoc]
      simp [List.getD, hk]
    have hfull : cntQ (List.replicate (n + 1) 0) (pairsN n) = cntQ (List.replicate (n + 1) 0) ((pairsN n).take (pairsN n).length) := by rw [List.take_length]
    rw [hfull]
    clear hfull hb h1
    generalize pairsN n = PS at *
    have HBD : Hid (∀ k j, 0 ≤ (cntQ (List.replicate (n + 1) 0) (PS.take k)).getD j 0 ∧ (cntQ (List.replicate (n + 1) 0) (PS.take k)).getD j 0 ≤ 196) := by
      intro k j
      have := cntq_bd (n + 1) (PS.take k) j
      rw [List.length_take] at this
      omega
    have HLN : Hid (∀ k, (cntQ (List.replicate (n + 1) 0) (PS.take k)).length = n + 1) := fun k => by rw [cntQ_len, List.length_replicate]
    have HZ : Hid (cntQ (List.replicate (n + 1) 0) (PS.take 0) = List.replicate (n + 1) 0) := rfl
    go_enter Try.func78, Try.ntmps78
    go_wp2_with (first
      | (go_at_call 89; refine (HI.out _).mono ?_; rintro e w' ⟨rfl, rfl⟩)
      | (at_make; refine wp_make _ rfl _ _ rfl (n + 1) _ _ rfl rfl (by omega) (by omega) (by omega) ?_; intro w1 hown1 hbel1 hsz1; have HO1 := Lib.hid hown1; have HB1 := Lib.hid hbel1; clear hown1 hbel1)
      | (go_at_call 147; ((with_reducible refine (HP.out _).mono ?_); rintro e w2 ⟨pv, es, rfl, hop, hb2⟩; obtain ⟨pa, pc, rfl, hp1, hp2⟩ := hop.form; unfold maxLen at hp2; have HOP := Lib.hid hop; have HO2 := Lib.hid (HO1.out.below hb2); have HB2 := Lib.hid (Below.step HB1.out hb2); have hz2 := hb2.size; clear hb2 hop)))
    have hlt1 : w.heap.size < w1.heap.size := (HO1.out.lt w.heap.size rfl).2
    go_loopw [16] (fun i wr => ∃ k : Nat, k ≤ PS.length ∧ i = .int .i64 (k : Int) ∧ Own w.heap.size wr (.slice (some ⟨w.heap.size, 0, none⟩) (n + 1) (n + 1)) (cntQ (List.replicate (n + 1) 0) (PS.take k)) ∧ OwnML w1.heap.size wr (.slice pa PS.length pc) es PS ∧ Below w.heap.size w wr) (fun i _ => PS.length - (intOf i).toNat)
    case atStart => exact ⟨0, by omega, rfl, by rw [HZ.out]; exact HO2.out, HOP.out, HB2.out⟩
    case round =>
      obtain ⟨k, hk, rfl, hown, hps, hbel⟩ := hrel
      clear HO1 HO2 HOP HB1 HB2
      generalize wr = wc at *
      by_cases hlt : k < PS.length
      · obtain ⟨g, rfl, e0, e1, r0, r1⟩ := hps.elem k hlt
        have hsuc := HTK.out k hlt
        have hln := HLN.out k
        have hc := HCL.out k hlt
        have hcall := HCK.out k hlt
        have hbd := HBD.out k (piecesL false (PS.getD k ([], [])).1 (PS.getD k ([], [])).2).length
        unfold incQ at hsuc
        generalize PS.getD k ([], []) = p at *
        obtain ⟨t, b⟩ := p
        simp only at r0 r1 hsuc hc hcall hbd
        generalize hpl : piecesL false t b = PL at *
        generalize hcc : PL.length = c at *
        have HCC := Lib.hid hcc; clear hcc hpl
        generalize cntQ (List.replicate (n + 1) 0) (PS.take k) = S at *
        generalize hy : S.getD c 0 = y at *
        have hy0 := hbd.1; have hy1 := hbd.2
        generalize (es.getD k noV).1 = u1 at *
        generalize (es.getD k noV).2 = u2 at *
        obtain ⟨x1, x2, x3, rfl⟩ : ∃ a n c, u1 = .slice a n c := by obtain ⟨a, c, e, -⟩ := r0; exact ⟨a, _, c, e⟩
        obtain ⟨y1, y2, y3, rfl⟩ : ∃ a n c, u2 = .slice a n c := by obtain ⟨a, c, e, -⟩ := r1; exact ⟨a, _, c, e⟩
        have R0 := Lib.hid r0; have R1 := Lib.hid r1; have HSU := Lib.hid hsuc; have HL2 := Lib.hid hln; have HC2 := Lib.hid hcall; have HO := Lib.hid hown; have HP3 := Lib.hid hps; have HBE := Lib.hid hbel; have HY := Lib.hid hy
        have hsz := hbel.size
        clear r0 r1 hsuc hln hcall hbd hown hps hbel hy
        go_wp2_with (go_at_call 154; ((with_reducible refine (HC2.out _ _ _ (R0.out.below (Below.alloc1 wc _)) (R1.out.below (Below.alloc1 wc _))).mono ?_); rintro e w6 ⟨qv, qes, rfl, hq, hb6⟩; obtain ⟨qa, qc, rfl, -, -⟩ := hq.form; rw [HCC.out]; have hb7 := Below.step (Below.alloc1 wc (.cells #[.slice x1 x2 x3, .slice y1 y2 y3] 26)) hb6; have ho6 := HO.out.below hb7; have hdst := ho6.cellAt c (by rw [HL2.out]; omega); rw [HY.out] at hdst; have hfr := ho6.frozenAt c; have hnew := ho6.stored c (y + 1); rw [← HSU.out] at hnew; have HN := Lib.hid hnew; have HP7 := Lib.hid (OwnML.cntStore (HP3.out.below hb7) hlt1 c (.int .i64 (y + 1))); have HB7 := Lib.hid ((Below.step HBE.out hb7).setCell (p := ⟨w.heap.size, c, none⟩) (Nat.le_refl _) (.int .i64 (y + 1))); clear hb6 hb7 ho6 hnew hq))
        go_roundw
        case rel => exact ⟨k + 1, by omega, by go_num, HN.out, HP7.out, HB7.out⟩
        case measure => simp [intOf]; omega
      · obtain rfl : k = PS.length := by omega
        have HO := Lib.hid hown; have HBE := Lib.hid hbel
        clear hown hps hbel
        go_wp2_with fail
        go_ret2
        exact ⟨_, rfl, HO.out, HBE.out⟩

end Go.Proofs.Ytogjclmmjdhfeab

namespace Go.Proofs.Ytogjclmmjdhfeab
open Go.RowKit
set_option linter.unusedSimpArgs false
set_option linter.unusedVariables false

set_option maxHeartbeats 2000000 in
theorem impl_AllWhole (x : Int) (w : World) : Calls Try.prog 66 #[.int .i64 x] w (GivesMF w (res_AllWhole x) (ok_AllWhole x)) := by
  unfold res_AllWhole ok_AllWhole
  have HI := Lib.hid (fun w => isCutCount_any x w)
  cases hb : inB x 1 4 with
  | false =>
    rw [hb] at HI
    simp only [Bool.false_eq_true, if_false]
    clear hb
    go_enter Try.func66, Try.ntmps66
    go_wp2_with (go_at_call 144; refine (HI.out _).mono ?_; rintro e w' ⟨rfl, rfl⟩)
    go_ret2
    exact ⟨_, _, rfl, OwnMF.nil _ _, Below.refl _ _⟩
  | true =>
    rw [hb] at HI
    have h1 := inB_iff.1 hb
    obtain ⟨n, rfl⟩ := Int.eq_ofNat_of_zero_le (by omega : 0 ≤ x)
    have hn : n ≤ 4 := by omega
    simp only [if_true, Int.toNat_natCast]
    have HW := Lib.hid (fun w => wholeOf_any n (by omega) w)
    have h12 : ∀ k, k < ((pairsN n).filter wholeP).length → (((pairsN n).filter wholeP).getD k ([], [])).1.length ≤ 12 ∧ (((pairsN n).filter wholeP).getD k ([], [])).2.length ≤ 12 := by
      intro k hk
      have hm : ((pairsN n).filter wholeP).getD k ([], []) ∈ (pairsN n).filter wholeP := by simp [List.getD, hk]
      exact pair12 (pairsN_good (n := n) (by omega) (List.mem_filter.1 hm).1).1
    have hlen : ((pairsN n).filter wholeP).length ≤ 20000 := Nat.le_trans (List.length_filter_le _ _) (Nat.le_trans (pairsN_len hn) (by omega))
    have HMF := Lib.hid (fun B w v ho => meandersFrom_any ((pairsN n).filter wholeP) h12 hlen B w v ho)
    clear h12 hb h1
    generalize (pairsN n).filter wholeP = M at *
    go_enter Try.func66, Try.ntmps66
    go_wp2_with (first
      | (go_at_call 144; refine (HI.out _).mono ?_; rintro e w' ⟨rfl, rfl⟩)
      | (go_at_call 146; ((with_reducible refine (HW.out _).mono ?_); rintro e w1 ⟨pv, rfl, hop, hb1⟩; have HOP := Lib.hid hop; have HB1 := Lib.hid hb1; obtain ⟨qa, qc, rfl, -, -⟩ := hop.form; clear hop hb1))
      | (go_at_call 145; ((with_reducible refine (HMF.out _ _ _ HOP.out).mono ?_); rintro e w5 ⟨rv, rvs, rfl, hor, hb5⟩; have HB5 := Lib.hid (Below.step HB1.out hb5); obtain ⟨ra, rc, rfl, -, -⟩ := hor.rd.form; have HOR := Lib.hid hor; clear hor hb5)))
    go_ret2
    exact ⟨_, _, rfl, HOR.out.mono HB1.out.size, HB5.out⟩

set_option maxHeartbeats 4000000 in
set_option maxRecDepth 100000 in
theorem spec_AllWhole (x : Int) (w : World) : Calls Try.prog 67 #[.int .i64 x] w (GivesRM w (res_AllWhole x) (ok_AllWhole x)) := by
  unfold res_AllWhole ok_AllWhole
  have HI := Lib.hid (fun w => l1In_any x 1 4 w)
  cases hb : inB x 1 4 with
  | false =>
    rw [hb] at HI
    simp only [Bool.false_eq_true, if_false]
    clear hb
    go_enter Try.func67, Try.ntmps67
    go_wp2_with (go_at_call 89; refine (HI.out _).mono ?_; rintro e w' ⟨rfl, rfl⟩)
    go_ret2
    exact ⟨_, _, rfl, (OwnMF.nil _ _).rd, Below.refl _ _⟩
  | true =>
    rw [hb] at HI
    have h1 := inB_iff.1 hb
    obtain ⟨n, rfl⟩ := Int.eq_ofNat_of_zero_le (by omega : 0 ≤ x)
    simp only [if_true, Int.toNat_natCast]
    have hn : n ≤ 4 := by omega
    have HP := Lib.hid (fun w => siPairs_any n (by omega) w)
    have hlen := pairsN_len hn
    have HW : Hid (∀ k, k < (pairsN n).length → ∀ w u1 u2, Rd w u1 ((pairsN n).getD k ([], [])).1 → Rd w u2 ((pairsN n).getD k ([], [])).2 → Calls Try.prog 143 #[.agg #[u1, u2]] w (Tells w (wholeP ((pairsN n).getD k ([], []))))) := fun k hk w u1 u2 h1 h2 => by
      have hg := pairsN_good (n := n) (by omega) (pairsN_at hk)
      exact siWhole_any _ _ hg.1.2.2 (pair12 hg.1).1 w u1 u2 h1 h2
    have HTF := Lib.hid (fun k hk => filterP_take_succ wholeP (pairsN n) k hk)
    have HFL : Hid (∀ k, (((pairsN n).take k).filter wholeP).length ≤ 1764) := fun k => Nat.le_trans (List.length_filter_le _ _) (by rw [List.length_take]; omega)
    have hfull : (pairsN n).filter wholeP = ((pairsN n).take (pairsN n).length).filter wholeP := by rw [List.take_length]
    rw [hfull]
    clear hfull hb h1
    generalize pairsN n = L at *
    go_enter Try.func67, Try.ntmps67
    go_wp2_with (first
      | (go_at_call 89; refine (HI.out _).mono ?_; rintro e w' ⟨rfl, rfl⟩)
      | (go_at_call 147; ((with_reducible refine (HP.out _).mono ?_); rintro e w1 ⟨v, es, rfl, ho, hb1⟩; obtain ⟨a1, c1, rfl, hc1, hm1⟩ := ho.form; unfold maxLen at hm1; have HO := Lib.hid ho; have HB1 := Lib.hid hb1; have hz1 := hb1.size; clear ho hb1)))
    go_loopw [4, 13] (fun o i wr => ∃ (k : Nat) (fs : List (Value × Value)), k ≤ L.length ∧ i = .int .i64 (k : Int) ∧ OwnML w.heap.size wr o fs ((L.take k).filter wholeP) ∧ (∀ b, o.ownBlock = some b → w1.heap.size ≤ b) ∧ Hid (Below w1.heap.size w1 wr)) (fun _ i _ => L.length - (intOf i).toNat)
    case atStart => exact ⟨0, [], by omega, rfl, by simpa using OwnML.nil _ _, fun b hb => by simp [Value.ownBlock] at hb, Below.refl _ _⟩
    case round =>
      obtain ⟨k, fs, hk, rfl, hown, haw, HBE⟩ := hrel
      generalize wr = wb at *
      by_cases hlt : k < L.length
      · have HE := HO.out.below HBE.out
        have hrows := HE.2.2 k hlt
        obtain ⟨g, rfl, e0, e1, r0, r1⟩ := HE.elem k hlt
        clear HE
        have htf := HTF.out k hlt
        have hfl := HFL.out k
        have hw := HW.out k hlt
        generalize L.getD k ([], []) = p at *
        generalize (L.take k).filter wholeP = S at *
        generalize (es.getD k noV).1 = u1 at *
        generalize (es.getD k noV).2 = u2 at *
        obtain ⟨x1, x2, x3, rfl⟩ : ∃ a n c, u1 = .slice a n c := by obtain ⟨a, c, e, -⟩ := r0; exact ⟨a, _, c, e⟩
        obtain ⟨y1, y2, y3, rfl⟩ : ∃ a n c, u2 = .slice a n c := by obtain ⟨a, c, e, -⟩ := r1; exact ⟨a, _, c, e⟩
        obtain ⟨oa, oc, rfl, -, -⟩ := hown.form
        have HW1 := Lib.hid hw; have HTF1 := Lib.hid htf; have R0 := Lib.hid r0; have R1 := Lib.hid r1; have HRW := Lib.hid hrows; have HN := Lib.hid hown; have HAW := Lib.hid haw
        have hzb : w1.heap.size ≤ wb.heap.size := HBE.out.size
        clear hw htf r0 r1 hrows hown haw
        cases hp : wholeP p with
        | true =>
          rw [hp] at HW1 HTF1
          clear hp
          go_wp2_with (first
            | (go_at_call 143; ((with_reducible refine (HW1.out _ _ _ (R0.out.below (Below.alloc1 wb _)) (R1.out.below (Below.alloc1 wb _))).mono ?_); rintro e w5 ⟨rfl, hb5⟩; have HB5 := Lib.hid (Below.step (Below.alloc1 wb (.cells #[.slice x1 x2 x3, .slice y1 y2 y3] 26)) hb5); have c50 := ((Box2.new 26 wb (.slice x1 x2 x3) (.slice y1 y2 y3)).below hb5).c0; have c51 := ((Box2.new 26 wb (.slice x1 x2 x3) (.slice y1 y2 y3)).below hb5).c1; clear hb5))
            | (at_builtin; refine wp_appendML _ rfl (.tmp 19) (.tmp 21) rfl w.heap.size w5.heap.size _ (.slice x1 x2 x3) (.slice y1 y2 y3) fs S p.1 p.2 rfl rfl (cells_new w5 _ _ _).1 (cells_new w5 _ _ _).2 ((HN.out.below HB5.out).below (Below.alloc1 _ _)) ((HRW.out.1.below HB5.out).below (Below.alloc1 _ _)) ((HRW.out.2.1.below HB5.out).below (Below.alloc1 _ _)) HRW.out.2.2 (by omega) (by have := HB5.out.size; simp; omega) ?_; intro o' w7 ho7 hg7 hb7 hw7; have HO7 := Lib.hid ho7; have HA7 : Hid (∀ b, o'.ownBlock = some b → w1.heap.size ≤ b) := (fun b hb => by rcases hw7 b hb with h8 | h8; exact HAW.out b h8; have := HB5.out.size; have := alloc_lt w5 (.cells #[.slice x1 x2 x3, .slice y1 y2 y3] 26); omega); have HB7 : Hid (Below w1.heap.size w1 w7) := (Below.step HBE.out (Below.step HB5.out (Below.alloc1 w5 (.cells #[.slice x1 x2 x3, .slice y1 y2 y3] 26)))).trans (below_grown hg7 (by have := HB5.out.size; have := alloc_lt w5 (.cells #[.slice x1 x2 x3, .slice y1 y2 y3] 26); omega) HAW.out); clear ho7 hg7 hb7 hw7))
          go_roundw
          case rel => exact ⟨k + 1, _, by omega, by go_num, by rw [HTF1.out]; exact HO7.out, HA7.out, HB7.out⟩
          case measure => simp [intOf]; omega
        | false =>
          rw [hp] at HW1 HTF1
          clear hp
          go_wp2_with (go_at_call 143; ((with_reducible refine (HW1.out _ _ _ (R0.out.below (Below.alloc1 wb _)) (R1.out.below (Below.alloc1 wb _))).mono ?_); rintro e w5 ⟨rfl, hb5⟩; have HB5 := Lib.hid (Below.step (Below.alloc1 wb (.cells #[.slice x1 x2 x3, .slice y1 y2 y3] 26)) hb5); clear hb5))
          go_roundw
          case rel => exact ⟨k + 1, fs, by omega, by go_num, by rw [HTF1.out]; simpa using HN.out.below HB5.out, HAW.out, Below.step HBE.out HB5.out⟩
          case measure => simp [intOf]; omega
      · obtain rfl : k = L.length := by omega
        obtain ⟨oa, oc, rfl, -, -⟩ := hown.form
        have HN := Lib.hid hown
        clear hown haw
        go_wp2_with fail
        go_ret2
        exact ⟨_, _, rfl, HN.out.rdML, Below.step HB1.out HBE.out⟩

end Go.Proofs.Ytogjclmmjdhfeab
