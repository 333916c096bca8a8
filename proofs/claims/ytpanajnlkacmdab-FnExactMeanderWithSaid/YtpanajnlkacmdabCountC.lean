/- CountClosing, ClosingWith: the program's functions and the model's. -/
import Derived.Test.YtpanajnlkacmdabPairs
import Derived.Test.YtpanajnlkacmdabClosing
import Derived.Test.YtpanajnlkacmdabRead
import Derived.Test.YtpanajnlkacmdabGood
namespace Go.Proofs.Ytpanajnlkacmdab
open Go.RowKit
set_option linter.unusedSimpArgs false
set_option linter.unusedVariables false

theorem boxP_load {ops : Array Oper} {rest : List Oper} {o : Oper} {a : Act} {w : World} {Q : Exit → Act → World → Prop} (hgd : o.guard = none) (x : Operand) (ho : o.op = .load 66 x)
    (g off : Nat) (t b : List Int) (hx : a.eval x = .pointer (some ⟨g, off, none⟩)) (hg : w.rangeAt g off (pairC t b).toList)
    (h : wpList Try.prog ops Q rest (a.put o.dst (.agg (pairC t b))) w) : wpList Try.prog ops Q (o :: rest) a w :=
  wpList_load_mid hgd _ x ho g off hx (pairC t b).toList _ hg Try.underlying66 rfl (by rw [pair_info]; rfl) h

def closeN (t : List Int) (c : Int) (L : List (List Int)) (k : Nat) : Nat := ((L.take k).filter (closeB t c)).length
theorem closeN_zero (t : List Int) (c : Int) (L : List (List Int)) : closeN t c L 0 = 0 := by simp [closeN]
theorem closeN_succ (t : List Int) (c : Int) (L : List (List Int)) (k : Nat) (hk : k < L.length) : closeN t c L (k + 1) = closeN t c L k + (if closeB t c (L.getD k []) then 1 else 0) := by
  unfold closeN
  rw [filter_take_succ _ _ _ hk, List.length_append]
  split <;> rfl
theorem closeN_le (t : List Int) (c : Int) (L : List (List Int)) (k : Nat) : closeN t c L k ≤ L.length := Nat.le_trans (List.length_filter_le _ _) (by rw [List.length_take]; omega)
theorem closeN_full (t : List Int) (c : Int) (L : List (List Int)) : closeN t c L L.length = (L.filter (closeB t c)).length := by unfold closeN; rw [List.take_length]

def ok_CountClosing (t : List Int) (c : Int) : Bool := goodB t && inB c 0 6
def res_CountClosing (t : List Int) (c : Int) : Int := if goodB t && inB c 0 6 then ((closeL t c).length : Int) else 0

/-- what holds of the systems of as many arches as a system has -/
theorem sys_half {t : List Int} (gt : goodB t = true) : ∃ m, m ≤ 6 ∧ t.length = 2 * m ∧ t.length / 2 = m ∧ (allL m).length ≤ 1000 ∧ ∀ k, k < (allL m).length → goodB ((allL m).getD k []) = true ∧ t.length = ((allL m).getD k []).length := by
  have h1 := good_len' gt
  have h2 := (good_facts gt).1
  refine ⟨t.length / 2, by omega, by omega, rfl, ?_, fun k hk => ?_⟩
  · rw [allL_length (by omega)]
    exact (show ∀ m, m < 7 → catN m ≤ 1000 by decide) _ (by omega)
  · have h := allL_good (n := t.length / 2) (by omega) hk
    exact ⟨h.1, by rw [h.2]; omega⟩
theorem under_get {t : List Int} {m : Nat} (hm : t.length / 2 = m) (k : Nat) (hk : k < (allL m).length) : (underL t).getD k ([], []) = (t, (allL m).getD k []) := by
  unfold underL
  rw [hm]
  simp [List.getD, hk]
theorem under_len {t : List Int} {m : Nat} (hm : t.length / 2 = m) : (underL t).length = (allL m).length := by unfold underL; rw [hm, List.length_map]

set_option maxRecDepth 100000 in
set_option maxHeartbeats 4000000 in
theorem impl_CountClosing (t : List Int) (c : Int) (w : World) (u : Value) (h : Rd w u t) (m1 : t.length ≤ 1048576) : Calls Try.prog 21 #[u, .int .i64 c] w (GivesN w (res_CountClosing t c) (ok_CountClosing t c)) := by
  unfold res_CountClosing ok_CountClosing
  cases hg : goodB t with
  | false =>
    have HG := Lib.hid hg; clear hg
    go_enter Try.func21, Try.ntmps21
    go_wp2_with fail
    refine (readSystem_no u t _ h HG.out).mono ?_
    rintro e w1 ⟨rfl, hb⟩
    go_wp2_with ((with_reducible refine wp_storeNew rfl (.tmp 6) (.tmp 14) rfl _ [] (Nat.zero_le _) rfl rfl ?_); intro w2 hs2 hb2)
    go_ret2
    exact ⟨rfl, Below.step hb hb2⟩
  | true =>
    have HL := Lib.hid (good_len' hg)
    have HG := Lib.hid hg
    by_cases hc1 : c < 0
    · have e : inB c 0 6 = false := inB_no (by omega)
      rw [e]
      clear hg
      go_enter Try.func21, Try.ntmps21
      go_wp2_with fail
      refine (readSystem_yes u t _ h HG.out).mono ?_
      rintro e w1 ⟨rfl, hb⟩
      go_wp2_with ((with_reducible refine wp_storeNew rfl (.tmp 6) (.tmp 14) rfl _ t HL.out rfl rfl ?_); intro w2 hs2 hb2)
      go_ret2
      exact ⟨rfl, Below.step hb hb2⟩
    · by_cases hc2 : 6 < c
      · have e : inB c 0 6 = false := inB_no (by omega)
        rw [e]
        clear hg
        have hc1' : 0 ≤ c := by omega
        go_enter Try.func21, Try.ntmps21
        go_wp2_with fail
        refine (readSystem_yes u t _ h HG.out).mono ?_
        rintro e w1 ⟨rfl, hb⟩
        go_wp2_with ((with_reducible refine wp_storeNew rfl (.tmp 6) (.tmp 14) rfl _ t HL.out rfl rfl ?_); intro w2 hs2 hb2)
        go_ret2
        exact ⟨rfl, Below.step hb hb2⟩
      · have e : inB c 0 6 = true := inB_yes (by omega) (by omega)
        rw [e]
        have hc1' : 0 ≤ c := by omega
        have hc2' : c ≤ 6 := by omega
        obtain ⟨m, hm6, hm2, hm3, hsh, hgd⟩ := sys_half hg
        have hcl : closeL t c = (allL m).filter (closeB t c) := by unfold closeL; rw [hm3]
        simp only [Bool.and_true, if_true]
        rw [hcl, ← closeN_full]
        have hpu := fun w => pairsUnder_any t hg w
        have hul := under_len hm3
        have hug := fun k hk => under_get (t := t) hm3 k hk
        have hcp : ∀ k, k < (allL m).length → ∀ w, Calls Try.prog 52 #[.agg (pairC t ((allL m).getD k []))] w fun e w' => e = .returned (.int .i64 ((compsL t ((allL m).getD k []) : Nat) : Int)) ∧ Below w.heap.size w w' :=
          fun k hk w => components_any t _ hg (hgd k hk).1 (hgd k hk).2 w
        generalize allL m = L at *
        generalize underL t = PS at *
        have HPU := Lib.hid hpu; have HUL := Lib.hid hul; have HUG := Lib.hid hug; have HCP := Lib.hid hcp
        have HCS := Lib.hid (fun k => closeN_succ t c L k); have HCZ := Lib.hid (closeN_zero t c L); have HCN := Lib.hid (fun k => closeN_le t c L k)
        clear hpu hul hug hcp hcl hm2 hm3 hgd hg e hc1 hc2
        go_enter Try.func21, Try.ntmps21
        go_wp2_with fail
        refine (readSystem_yes u t _ h HG.out).mono ?_
        rintro e w1 ⟨rfl, hb⟩
        go_wp2_with (first
          | ((with_reducible refine wp_storeNew rfl (.tmp 6) (.tmp 14) rfl _ t HL.out rfl rfl ?_); intro w2 hs2 hb2; have HB2 := Lib.hid (Below.step hb hb2); clear hb2 hb)
          | (with_reducible refine wp_loadSys rfl (.tmp 6) rfl w1.heap.size t HL.out rfl hs2 ?_)
          | (go_at_call 49; ((with_reducible refine (HPU.out _).mono ?_); rintro e w3 ⟨pv, rfl, hop, hb3⟩; obtain ⟨pa, pc, rfl, hp1, hp2⟩ := hop.form; unfold maxLen at hp2; have HOP := Lib.hid hop; have HB3 := Lib.hid (Below.step HB2.out hb3); clear hb3 hop hs2)))
        rw [HUL.out] at hp1 HOP ⊢
        go_loopw [8, 29] (fun o i wr => ∃ k : Nat, k ≤ L.length ∧ i = .int .i64 (k : Int) ∧ o = .int .i64 (closeN t c L k : Int) ∧ OwnP w2.heap.size wr (.slice pa L.length pc) PS ∧ Below w.heap.size w wr) (fun _ i _ => L.length - (intOf i).toNat)
        case atStart => exact ⟨0, by omega, rfl, by rw [HCZ.out]; rfl, HOP.out, HB3.out⟩
        case round =>
          obtain ⟨k, hk, rfl, rfl, hown, hbel⟩ := hrel
          clear HOP HB3 HB2
          generalize wr = wc at *
          by_cases hlt : k < L.length
          · obtain ⟨g, rfl, hx1, hx2, hx3, hrg, hth⟩ := hown.at (by rw [HUL.out]; omega)
            have hr := hrg k (by rw [HUL.out]; exact hlt)
            rw [HUG.out k hlt] at hr
            have hsuc := HCS.out k hlt
            have hle := HCN.out k
            have hck := HCP.out k hlt
            generalize L.getD k [] = q at *
            have hcb : closeB t c q = (((compsL t q : Nat) : Int) == c) := rfl
            rw [hcb] at hsuc
            clear hcb
            generalize ((compsL t q : Nat) : Int) = N at *
            generalize closeN t c L k = S at *
            have HR := Lib.hid hr; have HCK := Lib.hid hck; have HO := Lib.hid hown; have HBE := Lib.hid hbel; have HSU := Lib.hid hsuc
            clear hx1 hx2 hx3 hrg hth hr hck hown hbel hsuc
            by_cases hc : N = c
            · have hc' : (N == c) = true := by simp [hc]
              have HC' := Lib.hid hc'
              go_wp2_with (first
                | (with_reducible refine boxP_load rfl (.tmp 31) rfl g (k * 26) t q rfl HR.out ?_)
                | ((with_reducible refine wp_storePairN rfl (.tmp 10) (.tmp 32) rfl t q rfl rfl ?_); intro w5 hs5 hb5; have HS5 := Lib.hid hs5; have HB5 := Lib.hid hb5; clear hs5 hb5)
                | (with_reducible refine wp_loadPair rfl (.tmp 10) rfl wc.heap.size t q rfl HS5.out ?_)
                | (go_at_call 52; ((with_reducible refine (HCK.out _).mono ?_); rintro e w6 ⟨rfl, hb6⟩; have HB6 := Lib.hid (Below.step HB5.out hb6); clear hb6)))
              go_roundw
              case rel => exact ⟨k + 1, by omega, by go_num, by rw [HSU.out, HC'.out]; simp, HO.out.below HB6.out, Below.step HBE.out HB6.out⟩
              case measure => simp [intOf]; omega
            · have hc' : (N == c) = false := by simp [hc]
              have HC' := Lib.hid hc'
              go_wp2_with (first
                | (with_reducible refine boxP_load rfl (.tmp 31) rfl g (k * 26) t q rfl HR.out ?_)
                | ((with_reducible refine wp_storePairN rfl (.tmp 10) (.tmp 32) rfl t q rfl rfl ?_); intro w5 hs5 hb5; have HS5 := Lib.hid hs5; have HB5 := Lib.hid hb5; clear hs5 hb5)
                | (with_reducible refine wp_loadPair rfl (.tmp 10) rfl wc.heap.size t q rfl HS5.out ?_)
                | (go_at_call 52; ((with_reducible refine (HCK.out _).mono ?_); rintro e w6 ⟨rfl, hb6⟩; have HB6 := Lib.hid (Below.step HB5.out hb6); clear hb6)))
              go_roundw
              case rel => exact ⟨k + 1, by omega, by go_num, by rw [HSU.out, HC'.out]; simp, HO.out.below HB6.out, Below.step HBE.out HB6.out⟩
              case measure => simp [intOf]; omega
          · obtain rfl : k = L.length := by omega
            have HBE := Lib.hid hbel
            clear hown hbel
            go_wp2_with fail
            go_ret2
            exact ⟨rfl, HBE.out⟩

set_option maxHeartbeats 1000000 in
theorem spec_CountClosing (t : List Int) (c : Int) (w : World) (u : Value) (h : Rd w u t) (m1 : t.length ≤ 1048576) : Calls Try.prog 20 #[u, .int .i64 c] w (GivesN w (res_CountClosing t c) (ok_CountClosing t c)) := by
  unfold res_CountClosing ok_CountClosing
  have hgd := fun w h => ahGood_any u t w h m1
  have HGD := Lib.hid hgd; have HH := Lib.hid h
  cases hg : goodB t with
  | false =>
    rw [hg] at hgd
    have HG := Lib.hid hgd
    clear hgd hg HGD
    go_enter Try.func20, Try.ntmps20
    go_wp2_with (go_at_call 45; ((with_reducible refine (HG.out _ HH.out).mono ?_); rintro e w1 ⟨rfl, hb1⟩))
    go_ret2
    exact ⟨rfl, hb1⟩
  | true =>
    rw [hg] at hgd
    have HG := Lib.hid hgd
    have HMC := Lib.hid (fun w h => meClosing_any t c hg w u h)
    have HIN := Lib.hid (fun w => l1In_any c 0 6 w)
    clear hgd hg HGD
    cases hi : inB c 0 6 with
    | false =>
      rw [hi] at HIN
      clear hi
      go_enter Try.func20, Try.ntmps20
      go_wp2_with (first
        | (go_at_call 45; ((with_reducible refine (HG.out _ HH.out).mono ?_); rintro e w1 ⟨rfl, hb1⟩))
        | (go_at_call 51; ((with_reducible refine (HIN.out _).mono ?_); rintro e w2 ⟨rfl, rfl⟩)))
      go_ret2
      exact ⟨rfl, hb1⟩
    | true =>
      rw [hi] at HIN
      clear hi
      simp only [Bool.and_true, if_true]
      generalize closeL t c = CL at *
      go_enter Try.func20, Try.ntmps20
      go_wp2_with (first
        | (go_at_call 45; ((with_reducible refine (HG.out _ HH.out).mono ?_); rintro e w1 ⟨rfl, hb1⟩))
        | (go_at_call 51; ((with_reducible refine (HIN.out _).mono ?_); rintro e w2 ⟨rfl, rfl⟩))
        | (go_at_call 46; ((with_reducible refine (HMC.out _ (HH.out.below hb1)).mono ?_); rintro e w3 ⟨v3, vs3, rfl, ho3, hb3⟩; obtain ⟨a3, c3, rfl, hx3, hx4⟩ := ho3.form)))
      go_ret2
      exact ⟨rfl, Below.step hb1 hb3⟩

end Go.Proofs.Ytpanajnlkacmdab
