/- AllFoldings: the model's side. -/
import Derived.Test.YtnkkgbecdckigaaTopLaws
namespace Go.Proofs.Ytnkkgbecdckigaa
open Go.RowKit
set_option linter.unusedSimpArgs false
set_option linter.unusedVariables false

def turnG (l : List Int) (k : Nat) : List Int := turnF l k
theorem allF_all {n : Nat} : putAll (allG turnG (topT n) n (topT n).length) = putAll (allF n) :=
  putAll_perm (allG_perm n (putAll_self (topT n)).symm)

set_option maxHeartbeats 8000000 in
set_option maxRecDepth 100000 in
theorem spec_AllFoldings (x : Int) (w : World) : Calls Try.prog 23 #[.int .i64 x] w (GivesLL w (res_AllFoldings x) (ok_AllFoldings x)) := by
  unfold res_AllFoldings ok_AllFoldings
  by_cases h : 1 ≤ x ∧ x ≤ 6
  · obtain ⟨n, rfl⟩ := Int.eq_ofNat_of_zero_le (by omega : 0 ≤ x)
    have HI := Lib.hid (inB_yes h.1 h.2)
    have HF := Lib.hid (fun w => spTop_any n (by omega) (by omega) w)
    have hbd := topT_bd6 (n := n) (by omega)
    have HST := Lib.hid (fun k (hk : k < (topT n).length) => (topT_get (m := n) (by omega) (by omega) hk).2.1)
    rw [HI.out, if_pos rfl, show ((n : Int)).toNat = n from rfl, ← allF_all]
    generalize topT n = L at *
    have hn6 : n ≤ 6 := by omega
    have HSUC := Lib.hid (fun q (hq : q < L.length) => allG_succ turnG L n q hq)
    have HSMA : Hid (∀ q, q ≤ L.length → ∀ r ∈ allG turnG L n q, Small r) := fun q hq r hr => by
      unfold allG at hr
      rw [List.mem_flatMap] at hr
      obtain ⟨l, hl, h2⟩ := hr
      unfold rowG at h2
      rw [List.mem_map] at h2
      obtain ⟨k, _, e⟩ := h2
      subst e
      obtain ⟨i, hi, e⟩ := List.mem_iff_getElem.1 (List.mem_of_mem_take hl)
      have := HST.out i hi
      rw [show L.getD i [] = L[i] by simp [List.getD, hi], e] at this
      exact turnF_small _ this
    have HLA : Hid (∀ q, q ≤ L.length → (allG turnG L n q).length ≤ 720) := fun q hq => by
      have a := allG_len turnG L n q
      have b : q * n ≤ 120 * 6 := Nat.mul_le_mul (by omega) hn6
      omega
    clear h
    go_enter Try.func23, Try.ntmps23
    go_wp2_with (first
      | (go_at_call 44; refine (l1In_any _ _ _ _).mono ?_; rintro e w' ⟨rfl, rfl⟩; rw [HI.out])
      | (go_at_call 41; ((refine (HF.out _).mono ?_); rintro e w2 ⟨v2, us, rfl, hU, hb2⟩; obtain ⟨au, cu, rfl, hcu1, hcu2⟩ := hU.form; unfold maxLen at hcu2; have HU := Lib.hid hU; have HB2 := Lib.hid hb2; have hs2 := hb2.size; clear hU hb2)))
    go_loopw [4, 14] (fun o i wr => ∃ (k : Nat) (vs : List Value), k ≤ L.length ∧ i = .int .i64 k ∧ OwnLL w.heap.size wr.heap.size wr o vs (putAll (allG turnG L n k)) ∧ Below w2.heap.size w2 wr) (fun _ i _ => L.length - (intOf i).toNat)
    case atStart => exact ⟨0, [], by omega, rfl, by simpa [allG, putAll] using OwnLL.nil w.heap.size w2 hs2, Below.refl _ _⟩
    case round =>
      obtain ⟨k, vs, hk, rfl, hown, hbel⟩ := hrel
      generalize wr = wc at *
      by_cases hlt : k < L.length
      · have hUc := HU.out.below hbel
        obtain ⟨gu, rfl, _, _, hcell, _⟩ := hUc.at (by omega)
        have hck := hcell k hlt
        have hru := HU.out.own k hlt
        have hst := HST.out k hlt
        have hsuc := HSUC.out k hlt
        have hsma := HSMA.out k hk
        have hla := HLA.out k hk
        generalize L.getD k [] = l at *
        generalize allG turnG L n k = S at *
        generalize hpe : rowV us k = p at *
        have HTN := Lib.hid (fun (b : Nat) w h (hb : b ≤ 6) => spTurn_any l (b : Int) w p h hst (by omega) (by omega))
        have HSMT := Lib.hid (fun b => turnF_small (l := l) b hst)
        have HRU := Lib.hid hru.rd; have HSUC2 := Lib.hid hsuc; have HSM := Lib.hid hsma
        have HO := Lib.hid hown; have HBE := Lib.hid hbel
        clear hcell hru hst hsuc hsma hown hbel hUc hpe
        go_wp2
        go_loopw [4, 7] (fun o i wr => ∃ (b : Nat) (vs : List Value), b ≤ n ∧ i = .int .i64 b ∧ OwnLL w.heap.size wr.heap.size wr o vs (putAll (S ++ rowG turnG l b)) ∧ Below w2.heap.size w2 wr) (fun _ i _ => n - (intOf i).toNat)
        case atStart => exact ⟨0, vs, by omega, rfl, by simpa [rowG] using HO.out, HBE.out⟩
        case round =>
          clear HO HBE
          obtain ⟨b, vs, hb, rfl, hown, hbel⟩ := hrel
          generalize wr = wd at *
          by_cases hlb : b < n
          · have hlen : (putAll (S ++ rowG turnG l b)).length ≤ 800 := by rw [putAll_length, List.length_append, rowG_len]; omega
            have hsl : ∀ i, i < (putAll (S ++ rowG turnG l b)).length → Small ((putAll (S ++ rowG turnG l b)).getD i []) := fun i hi => by
              have hm := putAll_mem.1 (mem_get hi)
              generalize (putAll (S ++ rowG turnG l b)).getD i [] = rr at hm ⊢
              rw [List.mem_append] at hm
              rcases hm with hm | hm
              · exact HSM.out _ hm
              · unfold rowG at hm
                rw [List.mem_map] at hm
                obtain ⟨j, _, e⟩ := hm
                rw [← e]
                exact HSMT.out _
            have hts : putAll (S ++ rowG turnG l (b + 1)) = putL (putAll (S ++ rowG turnG l b)) (turnF l (b : Int)) := by
              rw [rowG_succ, ← List.append_assoc, putAll_snoc]; rfl
            generalize putAll (S ++ rowG turnG l b) = O at *
            have hsr := HSMT.out (b : Int)
            have htn := HTN.out b wd (HRU.out.below hbel) (by omega)
            generalize turnF l (b : Int) = r at *
            have HSL := Lib.hid hsl; have HTS := Lib.hid hts; have HSR := Lib.hid hsr; have HT := Lib.hid htn
            have HO := Lib.hid hown; have HBE := Lib.hid hbel
            have hsd := hbel.size
            clear hsl hts hsr htn hown hbel
            go_wp2_with (first
              | (go_at_call 46; ((with_reducible refine HT.out.mono ?_); rintro e w4 ⟨v4, rfl, ho4, hb4⟩; have HO4 := Lib.hid ho4; have HB4 := Lib.hid hb4; have hs4 := hb4.size; clear ho4 hb4))
              | (go_at_call 45; ((with_reducible refine (spPut_any w.heap.size wd.heap.size _ v4 vs O r w4 (HO.out.below HB4.out) (HO4.out.mono (by omega)) (by omega) (HO.out.ap_new HO4.out (Nat.le_refl _)) (by omega) HSL.out HSR.out).mono ?_); rintro e w5 ⟨v5, rfl, ho5, _, hb5⟩; have HO5 := Lib.hid ho5; have HB5 := Lib.hid (Below.step (Below.step HBE.out HB4.out) hb5); clear ho5 hb5)))
            go_roundw
            case rel => exact ⟨b + 1, _, by omega, by go_num, by rw [HTS.out]; exact HO5.out, HB5.out⟩
            case measure => simp [intOf]; omega
          · obtain rfl : b = n := by omega
            rw [← HSUC2.out] at hown
            have HO := Lib.hid hown; have HBE := Lib.hid hbel
            clear hown hbel
            go_wp2
            go_roundw
            case rel => exact ⟨k + 1, vs, by omega, by go_num, HO.out, HBE.out⟩
            case measure => simp [intOf]; omega
      · obtain rfl : k = L.length := by omega
        obtain ⟨ao, co, rfl, _⟩ := hown.form
        have HO := Lib.hid hown; have HBE := Lib.hid hbel
        clear hown hbel
        go_wp2
        go_ret2
        exact ⟨_, vs, rfl, HO.out, Below.step HB2.out HBE.out⟩
  · have HI := Lib.hid (inB_no h)
    rw [HI.out, if_neg (by simp)]
    clear h
    go_enter Try.func23, Try.ntmps23
    go_wp2_with (go_at_call 44; refine (l1In_any _ _ _ _).mono ?_; rintro e w' ⟨rfl, rfl⟩; rw [HI.out])
    go_ret2
    exact ⟨_, [], rfl, OwnLL.nil _ _ (Nat.le_refl _), Below.refl _ _⟩

end Go.Proofs.Ytnkkgbecdckigaa
