/- meClosing: the model's list of the systems that make k curves with a system. -/
import Derived.Test.YtbinpefogecgmabAhAll
import Derived.Test.YtbinpefogecgmabComps
namespace Go.Proofs.Ytbinpefogecgmab
open Go.RowKit
set_option linter.unusedSimpArgs false
set_option linter.unusedVariables false

theorem rows_good : (List.range 7).all (fun n => (allL n).all (fun q => goodB q && decide (q.length = 2 * n))) = true := by kernel_rfl
theorem allL_good {n k : Nat} (hn : n ≤ 6) (hk : k < (allL n).length) : goodB ((allL n).getD k []) = true ∧ ((allL n).getD k []).length = 2 * n := by
  have h1 := List.all_eq_true.1 rows_good n (List.mem_range.2 (by omega))
  have h2 := List.all_eq_true.1 h1 ((allL n).getD k []) (by simp [List.getD, hk])
  simpa using h2

def closeB (t : List Int) (c : Int) (q : List Int) : Bool := ((compsL t q : Nat) : Int) == c
def closeL (t : List Int) (c : Int) : List (List Int) := (allL (t.length / 2)).filter (closeB t c)
set_option maxRecDepth 100000 in
set_option maxHeartbeats 4000000 in
theorem meClosing_any (t : List Int) (c : Int) (gt : goodB t = true) (w : World) (u : Value) (h : Rd w u t) :
    Calls Try.prog 148 #[u, .int .i64 c] w (MadeLL w (closeL t c)) := by
  obtain ⟨m, hm6, hm2⟩ : ∃ m, m ≤ 6 ∧ t.length = 2 * m := by
    have h1 := good_len' gt
    have h2 := (good_facts gt).1
    exact ⟨t.length / 2, by omega, by omega⟩
  have hcl : closeL t c = (allL m).filter (closeB t c) := by unfold closeL; rw [hm2, Nat.mul_div_cancel_left _ (by omega)]
  have hmc : ∀ k, k < (allL m).length → ∀ w u1 u2, Rd w u1 t → Rd w u2 ((allL m).getD k []) → Calls Try.prog 136 #[.agg #[u1, u2]] w fun e w' => e = .returned (.int .i64 ((compsL t ((allL m).getD k []) : Nat) : Int)) ∧ Below w.heap.size w w' :=
    fun k hk w u1 u2 h1 h2 => meCount_any t ((allL m).getD k []) gt (allL_good hm6 hk).1 (by rw [(allL_good hm6 hk).2, hm2]) w u1 u2 h1 h2
  have hah : ∀ w, Calls Try.prog 160 #[.int .i64 (m : Int), .int .i64 0] w (MadeLL w (allL m)) := fun w => ahAll_any 7 m 0 w (by omega) (by omega) hm6 (by omega)
  have hsh : (allL m).length ≤ 1000 := ahL_short (by omega) (by omega)
  have HFT := Lib.hid (fun k => filter_take_succ (closeB t c) (allL m) k)
  have hfl : (allL m).filter (closeB t c) = ((allL m).take (allL m).length).filter (closeB t c) := by rw [List.take_length]
  rw [hcl, hfl]
  clear hcl hfl
  generalize allL m = L at *
  have HFL : Hid (∀ k, ((L.take k).filter (closeB t c)).length ≤ 1000) := fun k => Nat.le_trans (List.length_filter_le _ _) (by rw [List.length_take]; omega)
  have HMC := Lib.hid hmc; have HAH := Lib.hid hah; have hh := h
  obtain ⟨au0, cu0, rfl, hx1, hx2, _⟩ := h
  obtain ⟨n, hn⟩ : ∃ n, n = t.length := ⟨_, rfl⟩
  rw [← hn] at hm2 hx1 hh ⊢
  have HH := Lib.hid hh
  have HE : Hid ((n : Int) / 2 = (m : Int)) := by show (n : Int) / 2 = (m : Int); omega
  have hn12 : n ≤ 12 := by omega
  unfold maxLen at hx2
  clear hmc hah gt hn hm2 hh
  go_enter Try.func148, Try.ntmps148
  go_wp2_with (go_at_call 160; rw [HE.out]; ((with_reducible refine (HAH.out _).mono ?_); rintro e w1 ⟨vu, us, rfl, hU, hb1⟩; obtain ⟨au, cu, rfl, hcu1, hcu2⟩ := hU.form; unfold maxLen at hcu2))
  go_loopw [5, 13] (fun o i wr => ∃ (k : Nat) (vs : List Value), k ≤ L.length ∧ i = .int .i64 (k : Int) ∧ OwnLL w.heap.size wr.heap.size wr o vs ((L.take k).filter (closeB t c)) ∧ (∀ i, i < vs.length → ∃ j, j < k ∧ rowV vs i = rowV us j) ∧ OwnLL w.heap.size w1.heap.size wr (.slice au L.length cu) us L ∧ Away o w.heap.size w1.heap.size ∧ w1.heap.size ≤ wr.heap.size ∧ Below w.heap.size w wr) (fun _ i _ => L.length - (intOf i).toNat)
  case atStart => exact ⟨0, [], by omega, rfl, OwnLL.nil _ _ hb1.size, fun i hi => by simp at hi, hU, fun k hk => by simp [Value.ownBlock] at hk, Nat.le_refl _, hb1⟩
  case round =>
    obtain ⟨k, vs, hk, rfl, hown, hfrom, hUk, haw, hwk, hbel⟩ := hrel
    clear hU hb1
    generalize wr = wc at *
    by_cases hlt : k < L.length
    · obtain ⟨gu, rfl, hgu0, hgu1, hcell, _⟩ := hUk.at (by omega)
      have hck := hcell k hlt
      have hru := hUk.own k hlt
      have hft := HFT.out k hlt
      have hmk := HMC.out k hlt
      have hapt : ∀ i, i < ((L.take k).filter (closeB t c)).length → ∀ kk, (rowV us k).ownBlock = some kk → (rowV vs i).ownBlock ≠ some kk := by
        intro i hi kk hp
        obtain ⟨j, hj, e⟩ := hfrom i (by rw [hown.len]; exact hi)
        rw [e]
        exact hUk.apart k j hlt (by omega) (by omega) kk hp
      have hfl := HFL.out k
      generalize (L.take k).filter (closeB t c) = O at *
      generalize L.getD k [] = q at *
      have hcb : closeB t c q = (((compsL t q : Nat) : Int) == c) := rfl
      rw [hcb] at hft
      clear hcb
      generalize ((compsL t q : Nat) : Int) = N at *
      generalize hpe : rowV us k = pu at *
      obtain ⟨p1, p2, p3, rfl⟩ := hru.form'
      have HM2 := Lib.hid hmk; have HF2 := Lib.hid hft; have HAP := Lib.hid hapt; have HOL := Lib.hid hfl; have HRU := Lib.hid hru; have HO := Lib.hid hown; have HFR := Lib.hid hfrom; have HUK := Lib.hid hUk; have HAW := Lib.hid haw; have HBE := Lib.hid hbel; have HPE := Lib.hid hpe
      have hsz := hbel.size
      clear hcell hru hft hmk hapt hfl hown hfrom hUk haw hbel hpe
      by_cases hc : N = c
      · have hc' : (N == c) = true := by simp [hc]
        have HC' := Lib.hid hc'
        go_wp2_with (first
          | (go_at_call 136; ((with_reducible refine (HM2.out _ _ _ (HH.out.below HBE.out) HRU.out.rd).mono ?_); rintro e w2 ⟨rfl, hb2⟩; have HB2 := Lib.hid hb2; have HO2 := Lib.hid ((HO.out.below hb2).mono (Nat.le_refl _) hb2.size (Nat.le_refl _)); have z2 := hb2.size; clear hb2))
          | (at_builtin; refine wp_appendLS _ rfl (.tmp 23) (.tmp 25) rfl w.heap.size w2.heap.size w2.heap.size _ (.slice p1 p2 p3) _ O q rfl rfl (cell_lit1 w2 (.slice p1 p2 p3) _) (OwnLL.below HO2.out (Below.alloc1 _ _)) (Own.below (Own.below HRU.out HB2.out) (Below.alloc1 _ _)) HAP.out (by have := HOL.out; omega) (by simp; omega) ?_; intro o' w6 hown6 hgr6 hbel6 hwh6; have hkeep := LL_round HO2.out (Below.alloc1 _ _) hgr6 hwh6; have HKP := Lib.hid hkeep; have HO6 := Lib.hid hown6; have HB6 := Lib.hid ((HBE.out.trans ((HB2.out.trans ((Below.alloc1 w2 (.cells #[.slice p1 p2 p3] 24)).mono z2)).mono hsz)).trans hbel6); clear hkeep hown6 hgr6 hbel6 hwh6))
        go_roundw
        case rel =>
          refine ⟨k + 1, _, by omega, by go_num, by rw [HF2.out, HC'.out]; exact HO6.out, fun i hi => ?_, HKP.out.1 _ _ _ _ _ (HUK.out.below HB2.out) HAW.out, HKP.out.2.1 _ _ HAW.out (by omega), Nat.le_trans hwk (Nat.le_trans z2 HKP.out.2.2.2), HB6.out⟩
          by_cases e : i < vs.length
          · rw [rowV_snoc_lt e]
            obtain ⟨j, hj, e2⟩ := HFR.out i e
            exact ⟨j, by omega, e2⟩
          · obtain rfl : i = vs.length := by simp at hi; omega
            rw [rowV_snoc_eq]
            exact ⟨k, by omega, HPE.out.symm⟩
        case measure => simp [intOf]; omega
      · have hc' : (N == c) = false := by simp [hc]
        have HC' := Lib.hid hc'
        go_wp2_with (go_at_call 136; ((with_reducible refine (HM2.out _ _ _ (HH.out.below HBE.out) HRU.out.rd).mono ?_); rintro e w2 ⟨rfl, hb2⟩; have HB2 := Lib.hid hb2; have HO2 := Lib.hid ((HO.out.below hb2).mono (Nat.le_refl _) hb2.size (Nat.le_refl _)); have z2 := hb2.size; clear hb2))
        go_roundw
        case rel => exact ⟨k + 1, vs, by omega, by go_num, by rw [HF2.out, HC'.out]; simpa using HO2.out, fun i hi => by obtain ⟨j, hj, e2⟩ := HFR.out i hi; exact ⟨j, by omega, e2⟩, HUK.out.below HB2.out, HAW.out, Nat.le_trans hwk z2, Below.step HBE.out HB2.out⟩
        case measure => simp [intOf]; omega
    · obtain rfl : k = L.length := by omega
      obtain ⟨ao, co, rfl, _⟩ := hown.form
      go_wp2
      go_ret
      exact ⟨_, _, rfl, hown, hbel⟩

end Go.Proofs.Ytbinpefogecgmab
