/- The model's list of foldings with the first stamp at the top: spTop. -/
import Derived.Test.YtnkkgbecdckigaaSpAdd2
import Derived.Test.YtnkkgbecdckigaaTopMath
namespace Go.Proofs.Ytnkkgbecdckigaa
open Go.RowKit
set_option linter.unusedSimpArgs false
set_option linter.unusedVariables false

theorem hd0_yes {l : List Int} (h : l.getD 0 0 = 0) : hd0 l = true := decide_eq_true h
theorem hd0_no {l : List Int} (h : ¬ l.getD 0 0 = 0) : hd0 l = false := decide_eq_false h
theorem addedL_mem {l : List Int} {r : List Int} (h : r ∈ addedL l) : ∃ j, r = insL l j := by
  rw [← addRev_all] at h
  obtain ⟨j, _, e⟩ := addRev_mem _ r h
  exact ⟨j, e⟩
theorem addedL_ln (l : List Int) : (addedL l).length ≤ l.length + 1 := by rw [← addRev_all]; exact addRev_len l _
theorem addedL_row (l : List Int) : ∀ j, j < (addedL l).length → 1 ≤ ((addedL l).getD j []).length := by
  intro j hj
  rw [show (addedL l).getD j [] = (addedL l)[j] by simp [List.getD, hj]]
  obtain ⟨i, e⟩ := addedL_mem (List.getElem_mem hj)
  rw [e, insL_length]
  omega
theorem flt_yes {S U : List (List Int)} {j : Nat} (hj : j < U.length) (h : (U.getD j []).getD 0 0 = 0) : S ++ (U.take (j + 1)).filter hd0 = (S ++ (U.take j).filter hd0) ++ [U.getD j []] := by
  rw [filter_take_succ hd0 U j hj, hd0_yes h, if_pos rfl, List.append_assoc]
theorem flt_no {S U : List (List Int)} {j : Nat} (hj : j < U.length) (h : ¬ (U.getD j []).getD 0 0 = 0) : S ++ (U.take (j + 1)).filter hd0 = S ++ (U.take j).filter hd0 := by
  rw [filter_take_succ hd0 U j hj, hd0_no h, if_neg (by simp), List.append_nil]
theorem flt_len {S U : List (List Int)} {j k : Nat} (h : S.length ≤ k) : (S ++ (U.take j).filter hd0).length ≤ k + j := by
  rw [List.length_append]
  have := List.length_filter_le hd0 (U.take j)
  rw [List.length_take] at this
  omega

/-- rows that came from a fresh list, or lie below it -/
def Src (vs us : List Value) (base k : Nat) : Prop := ∀ i, i < vs.length → (∀ q, (rowV vs i).ownBlock = some q → q < base) ∨ ∃ j, j < k ∧ rowV vs i = rowV us j
theorem Src.start {lo hi : Nat} {w : World} {v : Value} {vs us : List Value} {ls : List (List Int)} (h : OwnLL lo hi w v vs ls) : Src vs us hi 0 := fun i hi' => .inl fun q hq => (h.inr i (by rw [← h.len]; exact hi') q hq).2
theorem Src.more {vs us : List Value} {base k : Nat} (h : Src vs us base k) : Src vs us base (k + 1) := fun i hi => (h i hi).imp id fun ⟨j, h1, h2⟩ => ⟨j, by omega, h2⟩
theorem Src.snoc {vs us : List Value} {base k : Nat} {p : Value} (h : Src vs us base k) (hp : rowV us k = p) : Src (vs ++ [p]) us base (k + 1) := by
  intro i hi
  by_cases e : i < vs.length
  · rw [rowV_snoc_lt e]; exact h.more i e
  · obtain rfl : i = vs.length := by simp at hi; omega
    rw [rowV_snoc_eq]
    exact .inr ⟨k, by omega, hp.symm⟩
theorem Src.apart {base top k : Nat} {w2 : World} {u p : Value} {vs us : List Value} {ls U : List (List Int)} (h : Src vs us base k) (hl : vs.length = ls.length) (hu : OwnLL base top w2 u us U) (hk : k < U.length) (hp : rowV us k = p) :
    ∀ i, i < ls.length → ∀ q, p.ownBlock = some q → (rowV vs i).ownBlock ≠ some q := by
  intro i hi q hq hq'
  subst hp
  rcases h i (by omega) with h1 | ⟨j, h1, h2⟩
  · have a := h1 q hq'
    have b := (hu.inr k hk q hq).1
    omega
  · rw [h2] at hq'
    exact hu.apart k j hk (by omega) (by omega) q hq hq'

set_option maxHeartbeats 8000000 in
set_option maxRecDepth 100000 in
theorem spTop_any (n : Nat) (h1 : 1 ≤ n) (h8 : n ≤ 8) (w : World) :
    Calls Try.prog 41 #[.int .i64 (n : Int)] w (MadeLL w (topT n)) := by
  have HAD := Lib.hid (fun (m k : Nat) (h1 : 1 ≤ m) (h7 : m ≤ 7) (hk : k < (topT m).length) v w h => spAdded_any v ((topT m).getD k []) w h (topT_get h1 (by omega) hk).2.1 (by rw [(topT_get h1 (by omega) hk).1]; exact h7))
  have HUL := Lib.hid (fun (m k : Nat) (h1 : 1 ≤ m) (h7 : m ≤ 7) (hk : k < (topT m).length) => show (addedL ((topT m).getD k [])).length ≤ 9 from by
    have := (topT_get h1 (by omega) hk).1
    have := addedL_ln ((topT m).getD k [])
    omega)
  have HSM := Lib.hid (fun m k => stepM_succ (topT m) k)
  have HSE := Lib.hid (fun (m : Nat) (h1 : 1 ≤ m) (h7 : m ≤ 7) => stepM_eq h1 (show m ≤ 8 by omega))
  have HLT := Lib.hid (fun (m : Nat) (h7 : m ≤ 8) => topT_bd h7)
  have H1 : Hid (topT 1 = [[0]]) := rfl
  go_enter Try.func41, Try.ntmps41
  go_wp2
  go_loopw [3, 4] (fun o i wr => ∃ (m : Nat) (vs : List Value), 1 ≤ m ∧ m ≤ n ∧ i = .int .i64 m ∧ OwnLL w.heap.size wr.heap.size wr o vs (topT m) ∧ Below w.heap.size w wr) (fun _ i _ => n - (intOf i).toNat)
  case atStart => 
    refine ⟨1, [.slice (some ⟨w.heap.size, 0, none⟩) 1 1], by omega, h1, rfl, ?_, (Below.alloc1 w _).alloc (by simp) _⟩
    rw [H1.out]
    have := OwnLL.lit1 w.heap.size (w.alloc (.cells #[.int .i64 0] 3)) _ [0] (Own.lit1 w.heap.size w 0 (Nat.le_refl _)) (by simp)
    simpa using this
  case round =>
    obtain ⟨m, lvs, hm1, hm, rfl, hown, hbel⟩ := hrel
    generalize wr = wm at *
    have hsm := hbel.size
    by_cases hlt : m < n
    · obtain ⟨ao, co, rfl, hco1, hco2⟩ := hown.form
      unfold maxLen at hco2
      have HTL := Lib.hid (HLT.out m (by omega))
      have HSE2 := Lib.hid (HSE.out m hm1 (by omega))
      have HSM2 := Lib.hid (HSM.out m)
      have HUL2 := Lib.hid (fun k hk => HUL.out m k hm1 (by omega) hk)
      have HAD2 := Lib.hid (fun k hk => HAD.out m k hm1 (by omega) hk)
      have HO := Lib.hid hown; have HBE := Lib.hid hbel
      clear hown hbel
      generalize topT m = T at *
      go_wp2
      go_loopw [5, 19] (fun o i wr => ∃ (k : Nat) (vs : List Value), k ≤ T.length ∧ i = .int .i64 k ∧ OwnLL w.heap.size wr.heap.size wr o vs (stepM T k) ∧ OwnLL w.heap.size wm.heap.size wr (.slice ao T.length co) lvs T ∧ Away o w.heap.size wm.heap.size ∧ wm.heap.size ≤ wr.heap.size ∧ (stepM T k).length ≤ 10 * k ∧ Below w.heap.size w wr) (fun _ i _ => T.length - (intOf i).toNat)
      case atStart => exact ⟨0, [], by omega, rfl, (OwnLL.nil _ _ hsm), HO.out, fun k hk => by simp [Value.ownBlock] at hk, Nat.le_refl _, by simp [stepM], HBE.out⟩
      case round =>
        obtain ⟨k, vs, hk, rfl, hown, hL, haw, hwk, hlen, hbel⟩ := hrel
        clear HO HBE
        generalize wr = wk at *
        by_cases hlk : k < T.length
        · obtain ⟨gl, rfl, _, _, hcell, _⟩ := hL.at (by omega)
          have hck := hcell k hlk
          have hrow := (hL.own k hlk).rd
          have hcall := HAD2.out k hlk (rowV lvs k)
          have hsuc := HSM2.out k hlk
          have hul := HUL2.out k hlk
          have hur := addedL_row (T.getD k [])
          generalize T.getD k [] = l at *
          generalize stepM T k = S at *
          generalize addedL l = U at *
          generalize hpe : rowV lvs k = p at *
          have HUR := Lib.hid hur
          have HC := Lib.hid hcall; have HSU := Lib.hid hsuc; have HROW := Lib.hid hrow
          have HO := Lib.hid hown; have HLL := Lib.hid hL; have HAW := Lib.hid haw; have HLEN := Lib.hid hlen; have HBE := Lib.hid hbel
          clear hcell hcall hsuc hrow hown hL haw hlen hbel hpe hur
          go_wp2_with (go_at_call 49; ((with_reducible refine (HC.out _ HROW.out).mono ?_); rintro e wa ⟨vu, us, rfl, hU, hba⟩; obtain ⟨au, cu, rfl, hcu1, hcu2⟩ := hU.form; unfold maxLen at hcu2; have HU := Lib.hid hU; have HBA := Lib.hid hba; have hsa := hba.size; clear hU hba))
          go_loopw [5, 26] (fun o i wr => ∃ (j : Nat) (vs : List Value), j ≤ U.length ∧ i = .int .i64 j ∧ OwnLL w.heap.size wr.heap.size wr o vs (S ++ (U.take j).filter hd0) ∧ Src vs us wk.heap.size j ∧ OwnLL wk.heap.size wa.heap.size wr (.slice au U.length cu) us U ∧ OwnLL w.heap.size wm.heap.size wr (.slice (some ⟨gl, 0, none⟩) T.length co) lvs T ∧ Away o w.heap.size wm.heap.size ∧ Away o wk.heap.size wa.heap.size ∧ wa.heap.size ≤ wr.heap.size ∧ Below w.heap.size w wr) (fun _ i _ => U.length - (intOf i).toNat)
          case atStart => exact ⟨0, vs, by omega, rfl, by simpa using (HO.out.below HBA.out).mono (Nat.le_refl _) hsa (Nat.le_refl _), Src.start HO.out, HU.out, HLL.out.below HBA.out, HAW.out, HO.out.away (Nat.le_refl _), Nat.le_refl _, Below.step HBE.out HBA.out⟩
          case round =>
            clear HO HLL HAW HBE HU HROW
            obtain ⟨j, vs, hj, rfl, hown, hsrc, hU, hLL, haw, haw2, hwa, hbel⟩ := hrel
            generalize wr = wc at *
            by_cases hlj : j < U.length
            · obtain ⟨gu, rfl, _, _, hcell, _⟩ := hU.at (by omega)
              have hcj := hcell j hlj
              have hru := hU.own j hlj
              have hapt := fun p (hp : rowV us j = p) => Src.apart hsrc hown.len hU hlj hp
              have hr1 := HUR.out j hlj
              have hfy := @flt_yes S U j hlj
              have hfn := @flt_no S U j hlj
              have hfl : (S ++ (U.take j).filter hd0).length ≤ 10 * k + j := flt_len HLEN.out
              generalize U.getD j [] = r at *
              generalize S ++ (U.take j).filter hd0 = O at *
              generalize hpe : rowV us j = p at *
              have hap := hapt p rfl
              obtain ⟨bp, op, cp, rfl, _, _, hcp⟩ := hru.rd.at (by omega)
              have hc0 := hcp 0 (by omega)
              rw [Nat.add_zero] at hc0
              generalize r.getD 0 0 = x at *
              have HRU := Lib.hid hru; have HAP := Lib.hid hap; have HFY := Lib.hid hfy; have HFN := Lib.hid hfn; have HFL := Lib.hid hfl; have HPE := Lib.hid hpe
              have HO := Lib.hid hown; have HSR := Lib.hid hsrc; have HU := Lib.hid hU; have HLL := Lib.hid hLL; have HAW := Lib.hid haw; have HAW2 := Lib.hid haw2; have HBE := Lib.hid hbel
              have hszc := hbel.size
              clear hcell hru hapt hfy hfn hfl hpe hap hcp hown hsrc hU hLL haw haw2 hbel
              by_cases hx : x = 0
              · have HF := Lib.hid (HFY.out hx)
                have hx2 : (x == 0) = true := by simpa using hx
                clear hx
                go_wp2_with (at_builtin; refine wp_appendLS _ rfl (.tmp 34) (.tmp 36) rfl w.heap.size wc.heap.size wc.heap.size _ (.slice (some ⟨bp, op, none⟩) r.length cp) _ O r rfl rfl (cell_lit1 wc _ _) (OwnLL.below HO.out (Below.alloc1 _ _)) (Own.below (HRU.out.mono (by omega)) (Below.alloc1 _ _)) HAP.out (by have := HFL.out; have := HTL.out; omega) (by simp; omega) ?_; intro o' w6 hown6 hgr6 hbel6 hwh6; have hkeep := LL_round HO.out (Below.alloc1 _ _) hgr6 hwh6; have HKP := Lib.hid hkeep; have HO6 := Lib.hid hown6; have HB6 := Lib.hid ((HBE.out.trans ((Below.alloc1 wc (.cells #[.slice (some ⟨bp, op, none⟩) r.length cp] 22)).mono hszc)).trans hbel6); clear hkeep hown6 hgr6 hbel6 hwh6)
                go_roundw
                case rel => exact ⟨j + 1, _, by omega, by go_num, by rw [HF.out]; exact HO6.out, HSR.out.snoc HPE.out, HKP.out.1 _ _ _ _ _ HU.out HAW2.out, HKP.out.1 _ _ _ _ _ HLL.out HAW.out, HKP.out.2.1 _ _ HAW.out (by omega), HKP.out.2.1 _ _ HAW2.out (by omega), Nat.le_trans hwa HKP.out.2.2.2, HB6.out⟩
                case measure => simp [intOf]; omega
              · have HF := Lib.hid (HFN.out hx)
                have hx2 : (x == 0) = false := by simpa using hx
                clear hx
                go_wp2
                go_roundw
                case rel => exact ⟨j + 1, vs, by omega, by go_num, by rw [HF.out]; exact HO.out, HSR.out.more, HU.out, HLL.out, HAW.out, HAW2.out, hwa, HBE.out⟩
                case measure => simp [intOf]; omega
            · obtain rfl : j = U.length := by omega
              have hfl : (S ++ (U.take U.length).filter hd0).length ≤ 10 * k + U.length := flt_len HLEN.out
              rw [List.take_length, ← HSU.out] at hown hfl
              have HO := Lib.hid hown; have HLL := Lib.hid hLL; have HAW := Lib.hid haw; have HBE := Lib.hid hbel; have HFL := Lib.hid hfl
              clear hown hLL haw hbel hsrc hU haw2 hfl
              go_wp2
              go_roundw
              case rel => exact ⟨k + 1, vs, by omega, by go_num, HO.out, HLL.out, HAW.out, by omega, by have := HFL.out; omega, HBE.out⟩
              case measure => simp [intOf]; omega
        · obtain rfl : k = T.length := by omega
          rw [HSE2.out] at hown
          have HO := Lib.hid hown; have HBE := Lib.hid hbel
          clear hown hbel hL haw
          go_wp2
          go_roundw
          case rel => exact ⟨m + 1, vs, by omega, by omega, by go_num, HO.out, HBE.out⟩
          case measure => simp [intOf]; omega
    · obtain rfl : m = n := by omega
      obtain ⟨ao, co, rfl, _⟩ := hown.form
      go_wp2
      go_ret
      exact ⟨_, _, rfl, hown, hbel⟩

end Go.Proofs.Ytnkkgbecdckigaa
