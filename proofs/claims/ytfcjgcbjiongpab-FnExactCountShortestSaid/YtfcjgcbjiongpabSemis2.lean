/- AllSemis: the program's function and the model's. -/
import Derived.Test.YtfcjgcbjiongpabSemis
namespace Go.Proofs.Ytfcjgcbjiongpab
open Go.RowKit
set_option linter.unusedSimpArgs false
set_option linter.unusedVariables false

theorem semisL_facts {n : Nat} (hn : n ≤ 6) : (semisL n).length ≤ 132 ∧ (∀ k, k < (semisL n).length → goodB ((semisL n).getD k []) = true ∧ ((semisL n).getD k []).length = 2 * n) := by
  have h1 : ∀ l ∈ semisL n, goodB l = true ∧ l.length = 2 * n := by
    intro l hl
    unfold semisL at hl
    obtain ⟨hm, _⟩ := List.mem_filter.1 hl
    obtain ⟨k, hk, rfl⟩ := List.mem_iff_getElem.1 hm
    have := allL_good hn hk
    rw [show (allL n).getD k [] = (allL n)[k] by simp [List.getD, hk]] at this
    exact this
  refine ⟨?_, fun k hk => ?_⟩
  · have := List.length_filter_le semiB (allL n)
    rw [allL_length hn] at this
    have := (catN_bd n hn).2
    unfold semisL
    omega
  · rw [show (semisL n).getD k [] = (semisL n)[k] by simp [List.getD, hk]]
    exact h1 _ (List.getElem_mem hk)

def ok_AllSemis (x : Int) : Bool := inB x 1 6
def res_AllSemis (x : Int) : List (List Int) := if inB x 1 6 then semisL x.toNat else []
theorem allSemis_yes {n : Nat} (h1 : 1 ≤ n) (h6 : n ≤ 6) : res_AllSemis (n : Int) = semisL n ∧ ok_AllSemis (n : Int) = true := by
  have := inB_yes (n := (n : Int)) (lo := 1) (hi := 6) (by omega) (by omega)
  unfold res_AllSemis ok_AllSemis
  rw [this]
  exact ⟨rfl, rfl⟩
theorem allSemis_no {x : Int} (h : ¬ (1 ≤ x ∧ x ≤ 6)) : res_AllSemis x = [] ∧ ok_AllSemis x = false := by
  unfold res_AllSemis ok_AllSemis
  rw [inB_no h]
  exact ⟨rfl, rfl⟩
theorem len_AllSemis (x : Int) : tot (res_AllSemis x) ≤ 1000000 ∧ ∀ i, i < (res_AllSemis x).length → ((res_AllSemis x).getD i []).length ≤ 1000000 := by
  by_cases h : 1 ≤ x ∧ x ≤ 6
  · obtain ⟨n, rfl⟩ := Int.eq_ofNat_of_zero_le (by omega : 0 ≤ x)
    rw [(allSemis_yes (by omega) (by omega)).1]
    have hf := semisL_facts (n := n) (by omega)
    have h3 : ∀ i, i < (semisL n).length → ((semisL n).getD i []).length ≤ 12 := fun i hi => by have := (hf.2 i hi).2; omega
    exact ⟨by have := tot_le h3; have := hf.1; omega, fun i hi => Nat.le_trans (h3 i hi) (by omega)⟩
  · rw [(allSemis_no h).1]
    exact ⟨by simp [tot], fun i hi => by simp at hi⟩

set_option maxHeartbeats 400000 in
theorem isSemiCount_any (n : Int) (w : World) :
    Calls Try.prog 60 #[.int .i64 n] w fun e w' => e = .returned (.bool (inB n 1 6)) ∧ w = w' := by
  go_enter Try.func60, Try.ntmps60
  go_wp2
  all_goals go_ret
  all_goals (simp [inB]; omega)

set_option maxHeartbeats 2000000 in
set_option maxRecDepth 100000 in
theorem listsSys_any (ls : List (List Int)) (hgd : ∀ k, k < ls.length → (ls.getD k []).length ≤ 12) (hn : ls.length ≤ 20000) (B : Nat) (w : World) (v : Value) (hown : OwnS B w v ls) :
    Calls Try.prog 41 #[v] w (MadeLL w ls) := by
  have HLC := Lib.hid (fun k (hk : k < ls.length) w => list_any (ls.getD k []) w (hgd k hk))
  have HGL := Lib.hid hgd
  have HTS : Hid (∀ k, k < ls.length → ls.take (k + 1) = ls.take k ++ [ls.getD k []]) := fun k hk => by
    rw [List.take_succ_eq_append_getElem hk]
    simp [List.getD, hk]
  clear hgd
  obtain ⟨a0, c0, rfl, hx1, hx2⟩ := hown.form
  unfold maxLen at hx2
  have HO := Lib.hid hown
  clear hown
  go_enter Try.func41, Try.ntmps41
  go_wp2_with fail
  go_loopw [3, 8] (fun o i wr => ∃ (k : Nat) (vs : List Value), k ≤ ls.length ∧ i = .int .i64 (k : Int) ∧ OwnLL w.heap.size wr.heap.size wr o vs (ls.take k) ∧ Below w.heap.size w wr) (fun _ i _ => ls.length - (intOf i).toNat)
  case atStart => exact ⟨0, [], by omega, rfl, OwnLL.nil _ _ (Nat.le_refl _), Below.refl _ _⟩
  case round =>
    obtain ⟨k, vs, hk, rfl, hown, hbel⟩ := hrel
    generalize wr = wc at *
    by_cases hlt : k < ls.length
    · obtain ⟨g, rfl, hy1, hy2, hy3, hrg⟩ := (HO.out.below hbel).at (by omega)
      have hr := hrg k hlt
      have hts := HTS.out k hlt
      have hcall := HLC.out k hlt
      have hgl := HGL.out k hlt
      have HLT : Hid ((ls.take k).length ≤ ls.length) := by show _ ≤ _; rw [List.length_take]; omega
      generalize ls.getD k [] = t at *
      generalize ls.take k = S at *
      have HR := Lib.hid hr; have HCL := Lib.hid hcall; have HOQ := Lib.hid hown; have HBE := Lib.hid hbel; have HTS2 := Lib.hid hts; have HGL2 := Lib.hid hgl
      have hsz := hbel.size
      clear hy1 hy2 hy3 hrg hr hcall hown hbel hts hgl
      go_wp2_with (first
        | (with_reducible refine boxS_load rfl (.tmp 10) rfl g (k * 13) t HGL2.out rfl HR.out ?_)
        | ((with_reducible refine wp_storeNew rfl (.tmp 5) (.tmp 11) rfl _ t HGL2.out rfl rfl ?_); intro w5 hs5 hb5; have HS5 := Lib.hid hs5; have HB5 := Lib.hid hb5; clear hs5 hb5)
        | (with_reducible refine wp_loadSys rfl (.tmp 5) rfl wc.heap.size t HGL2.out rfl HS5.out ?_)
        | fail)
      show Calls Try.prog 99 #[.agg (sysC t)] _ _
      refine (HCL.out _).mono ?_
      rintro e w6 ⟨p, rfl, hp, hb6⟩
      have HP := Lib.hid hp; have HB6 := Lib.hid (Below.step HB5.out hb6); have HZ5 := Lib.hid HB5.out.size; have HZ6 := Lib.hid hb6.size
      obtain ⟨p1, p2, p3, rfl⟩ := hp.form'
      clear hp hb6
      go_wp2_with (at_builtin; refine wp_appendLL _ rfl (.tmp 12) (.tmp 16) rfl w.heap.size wc.heap.size w5.heap.size w6.heap.size _ (.slice p1 p2 p3) vs S t rfl rfl (cell_lit1 _ _ _) (OwnLL.below HOQ.out (HB6.out.alloc HB6.out.size _)) (Own.below HP.out (Below.alloc1 _ _)) HZ5.out (by have := HZ5.out; omega) (by have := HLT.out; omega) (by have := HB6.out.size; simp; omega) ?_; intro v' w7 hown7 hgr7 hbel7 _; have HO7 := Lib.hid hown7; have HB7 := Lib.hid (chain1 HBE.out hsz HB6.out hbel7); clear hown7 hgr7 hbel7)
      go_roundw
      case rel => exact ⟨k + 1, _, by omega, by go_num, by rw [HTS2.out]; exact HO7.out, HB7.out⟩
      case measure => simp [intOf]; omega
    · obtain rfl : k = ls.length := by omega
      rw [List.take_length] at hown
      obtain ⟨a5, c5, rfl, _⟩ := hown.form
      have HOQ := Lib.hid hown; have HBE := Lib.hid hbel
      clear hown hbel
      go_wp2_with fail
      go_ret
      exact ⟨_, vs, rfl, HOQ.out, HBE.out⟩

set_option maxHeartbeats 1000000 in
theorem impl_AllSemis (x : Int) (w : World) : Calls Try.prog 34 #[.int .i64 x] w (GivesLL w (res_AllSemis x) (ok_AllSemis x)) := by
  by_cases h : 1 ≤ x ∧ x ≤ 6
  · obtain ⟨n, rfl⟩ := Int.eq_ofNat_of_zero_le (by omega : 0 ≤ x)
    rw [(allSemis_yes (by omega) (by omega)).1, (allSemis_yes (by omega) (by omega)).2]
    have HI := Lib.hid (inB_yes h.1 h.2)
    have hn : n ≤ 6 := by omega
    have HS := Lib.hid (fun w => semisOf_any n hn w)
    have hf := semisL_facts hn
    have HL := Lib.hid (fun B w v ho => listsSys_any (semisL n) (fun k hk => by have := (hf.2 k hk).2; omega) (by have := hf.1; omega) B w v ho)
    generalize semisL n = L at *
    clear hf h
    go_enter Try.func34, Try.ntmps34
    go_wp2_with (first
      | (go_at_call 60; refine (isSemiCount_any _ _).mono ?_; rintro e w' ⟨rfl, rfl⟩; rw [HI.out])
      | (go_at_call 61; ((with_reducible refine (HS.out _).mono ?_); rintro e w1 ⟨v1, rfl, ho1, hb1⟩; have HO1 := Lib.hid ho1; have HB1 := Lib.hid hb1; obtain ⟨a1, c1, rfl, _⟩ := ho1.form; clear ho1 hb1))
      | (go_at_call 41; ((refine (HL.out _ _ _ HO1.out).mono ?_); rintro e w2 ⟨v2, vs, rfl, ho2, hb2⟩)))
    go_ret2
    exact ⟨_, vs, rfl, ho2.mono HB1.out.size (Nat.le_refl _) (Nat.le_refl _), Below.step HB1.out hb2⟩
  · rw [(allSemis_no h).1, (allSemis_no h).2]
    have HI := Lib.hid (inB_no h)
    clear h
    go_enter Try.func34, Try.ntmps34
    go_wp2_with (go_at_call 60; refine (isSemiCount_any _ _).mono ?_; rintro e w' ⟨rfl, rfl⟩; rw [HI.out])
    go_ret2
    exact ⟨_, [], rfl, OwnLL.nil _ _ (Nat.le_refl _), Below.refl _ _⟩

set_option maxRecDepth 100000 in
set_option maxHeartbeats 4000000 in
theorem spSemis_any (m : Nat) (hm6 : m ≤ 6) (w : World) :
    Calls Try.prog 59 #[.int .i64 (m : Int)] w (MadeLL w (semisL m)) := by
  have hmc : ∀ k, k < (allL m).length → ∀ w u1, Rd w u1 ((allL m).getD k []) → Calls Try.prog 78 #[u1] w (Tells w (semiB ((allL m).getD k []))) :=
    fun k hk w u1 h1 => spSemi_all u1 ((allL m).getD k []) w h1 (allL_good hm6 hk).1
  have hah : ∀ w, Calls Try.prog 48 #[.int .i64 (m : Int), .int .i64 0] w (MadeLL w (allL m)) := fun w => ahAll_any 7 m 0 w (by omega) (by omega) hm6 (by omega)
  have hsh : (allL m).length ≤ 1000 := ahL_short (by omega) (by omega)
  have HFT := Lib.hid (fun k => filter_take_succ semiB (allL m) k)
  have hfl : semisL m = ((allL m).take (allL m).length).filter semiB := by rw [List.take_length]; rfl
  rw [hfl]
  clear hfl
  generalize allL m = L at *
  have HFL : Hid (∀ k, ((L.take k).filter semiB).length ≤ 1000) := fun k => Nat.le_trans (List.length_filter_le _ _) (by rw [List.length_take]; omega)
  have HMC := Lib.hid hmc; have HAH := Lib.hid hah
  clear hmc hah
  go_enter Try.func59, Try.ntmps59
  go_wp2_with (go_at_call 48; ((with_reducible refine (HAH.out _).mono ?_); rintro e w1 ⟨vu, us, rfl, hU, hb1⟩; obtain ⟨au, cu, rfl, hcu1, hcu2⟩ := hU.form; unfold maxLen at hcu2))
  go_loopw [3, 9] (fun o i wr => ∃ (k : Nat) (vs : List Value), k ≤ L.length ∧ i = .int .i64 (k : Int) ∧ OwnLL w.heap.size wr.heap.size wr o vs ((L.take k).filter semiB) ∧ (∀ i, i < vs.length → ∃ j, j < k ∧ rowV vs i = rowV us j) ∧ OwnLL w.heap.size w1.heap.size wr (.slice au L.length cu) us L ∧ Away o w.heap.size w1.heap.size ∧ w1.heap.size ≤ wr.heap.size ∧ Below w.heap.size w wr) (fun _ i _ => L.length - (intOf i).toNat)
  case atStart => exact ⟨0, [], by omega, rfl, OwnLL.nil _ _ hb1.size, fun i hi => by simp at hi, hU, fun k hk => by simp [Value.ownBlock] at hk, Nat.le_refl _, hb1⟩
  case round =>
    obtain ⟨k, vs, hk, rfl, hown, hfrom, hUk, haw, hwk, hbel⟩ := hrel
    clear hU hb1
    generalize wr = wc at *
    by_cases hlt : k < L.length
    · obtain ⟨gu, rfl, hgu0, hgu1, hcell, _⟩ := hUk.at (by omega)
      have hck := hcell k hlt
      have hru := hUk.own k hlt
      have hft := HFT.out k hlt
      have hmk := HMC.out k hlt
      have hapt : ∀ i, i < ((L.take k).filter semiB).length → ∀ kk, (rowV us k).ownBlock = some kk → (rowV vs i).ownBlock ≠ some kk := by
        intro i hi kk hp
        obtain ⟨j, hj, e⟩ := hfrom i (by rw [hown.len]; exact hi)
        rw [e]
        exact hUk.apart k j hlt (by omega) (by omega) kk hp
      have hfl := HFL.out k
      generalize (L.take k).filter semiB = O at *
      generalize L.getD k [] = q at *
      generalize semiB q = M at *
      generalize hpe : rowV us k = pu at *
      obtain ⟨p1, p2, p3, rfl⟩ := hru.form'
      have HM2 := Lib.hid hmk; have HF2 := Lib.hid hft; have HAP := Lib.hid hapt; have HOL := Lib.hid hfl; have HRU := Lib.hid hru; have HO := Lib.hid hown; have HFR := Lib.hid hfrom; have HUK := Lib.hid hUk; have HAW := Lib.hid haw; have HBE := Lib.hid hbel; have HPE := Lib.hid hpe
      have hsz := hbel.size
      clear hcell hru hft hmk hapt hfl hown hfrom hUk haw hbel hpe
      cases M with
      | true =>
        go_wp2_with (first
          | (go_at_call 78; ((with_reducible refine (HM2.out _ _ HRU.out.rd).mono ?_); rintro e w2 ⟨rfl, hb2⟩; have HB2 := Lib.hid hb2; have HO2 := Lib.hid ((HO.out.below hb2).mono (Nat.le_refl _) hb2.size (Nat.le_refl _)); have z2 := hb2.size; clear hb2))
          | (at_builtin; refine wp_appendLS _ rfl (.tmp 15) (.tmp 17) rfl w.heap.size w2.heap.size w2.heap.size _ (.slice p1 p2 p3) _ O q rfl rfl (cell_lit1 w2 (.slice p1 p2 p3) _) (OwnLL.below HO2.out (Below.alloc1 _ _)) (Own.below (Own.below HRU.out HB2.out) (Below.alloc1 _ _)) HAP.out (by have := HOL.out; omega) (by simp; omega) ?_; intro o' w6 hown6 hgr6 hbel6 hwh6; have hkeep := LL_round HO2.out (Below.alloc1 _ _) hgr6 hwh6; have HKP := Lib.hid hkeep; have HO6 := Lib.hid hown6; have HB6 := Lib.hid ((HBE.out.trans ((HB2.out.trans ((Below.alloc1 w2 (.cells #[.slice p1 p2 p3] 22)).mono z2)).mono hsz)).trans hbel6); clear hkeep hown6 hgr6 hbel6 hwh6))
        go_roundw
        case rel =>
          refine ⟨k + 1, _, by omega, by go_num, by rw [HF2.out]; exact HO6.out, fun i hi => ?_, HKP.out.1 _ _ _ _ _ (HUK.out.below HB2.out) HAW.out, HKP.out.2.1 _ _ HAW.out (by omega), Nat.le_trans hwk (Nat.le_trans z2 HKP.out.2.2.2), HB6.out⟩
          by_cases e : i < vs.length
          · rw [rowV_snoc_lt e]
            obtain ⟨j, hj, e2⟩ := HFR.out i e
            exact ⟨j, by omega, e2⟩
          · obtain rfl : i = vs.length := by simp at hi; omega
            rw [rowV_snoc_eq]
            exact ⟨k, by omega, HPE.out.symm⟩
        case measure => simp [intOf]; omega
      | false =>
        go_wp2_with (go_at_call 78; ((with_reducible refine (HM2.out _ _ HRU.out.rd).mono ?_); rintro e w2 ⟨rfl, hb2⟩; have HB2 := Lib.hid hb2; have HO2 := Lib.hid ((HO.out.below hb2).mono (Nat.le_refl _) hb2.size (Nat.le_refl _)); have z2 := hb2.size; clear hb2))
        go_roundw
        case rel => exact ⟨k + 1, vs, by omega, by go_num, by rw [HF2.out]; simpa using HO2.out, fun i hi => by obtain ⟨j, hj, e2⟩ := HFR.out i hi; exact ⟨j, by omega, e2⟩, HUK.out.below HB2.out, HAW.out, Nat.le_trans hwk z2, Below.step HBE.out HB2.out⟩
        case measure => simp [intOf]; omega
    · obtain rfl : k = L.length := by omega
      obtain ⟨ao, co, rfl, _⟩ := hown.form
      go_wp2
      go_ret
      exact ⟨_, _, rfl, hown, hbel⟩

set_option maxHeartbeats 1000000 in
theorem spec_AllSemis (x : Int) (w : World) : Calls Try.prog 33 #[.int .i64 x] w (GivesLL w (res_AllSemis x) (ok_AllSemis x)) := by
  by_cases h : 1 ≤ x ∧ x ≤ 6
  · obtain ⟨n, rfl⟩ := Int.eq_ofNat_of_zero_le (by omega : 0 ≤ x)
    rw [(allSemis_yes (by omega) (by omega)).1, (allSemis_yes (by omega) (by omega)).2]
    have HI := Lib.hid (inB_yes h.1 h.2)
    have hn : n ≤ 6 := by omega
    have HS := Lib.hid (fun w => spSemis_any n hn w)
    generalize semisL n = L at *
    clear h
    go_enter Try.func33, Try.ntmps33
    go_wp2_with (first
      | (go_at_call 58; refine (l1In_any _ _ _ _).mono ?_; rintro e w' ⟨rfl, rfl⟩; rw [HI.out])
      | (go_at_call 59; ((with_reducible refine (HS.out _).mono ?_); rintro e w1 ⟨v1, vs, rfl, ho1, hb1⟩)))
    go_ret2
    exact ⟨_, vs, rfl, ho1, hb1⟩
  · rw [(allSemis_no h).1, (allSemis_no h).2]
    have HI := Lib.hid (inB_no h)
    clear h
    go_enter Try.func33, Try.ntmps33
    go_wp2_with (go_at_call 58; refine (l1In_any _ _ _ _).mono ?_; rintro e w' ⟨rfl, rfl⟩; rw [HI.out])
    go_ret2
    exact ⟨_, [], rfl, OwnLL.nil _ _ (Nat.le_refl _), Below.refl _ _⟩

end Go.Proofs.Ytfcjgcbjiongpab
