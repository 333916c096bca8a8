/- All parts of a sum: program and model. -/
import Derived.Test.YtgaaddfipkdlaaaPartsMath
import Derived.Test.YtgaaddfipkdlaaaListsP
namespace Go.Proofs.Ytgaaddfipkdlaaa
open Go.RowKit
set_option linter.unusedSimpArgs false
set_option linter.unusedVariables false

set_option maxRecDepth 100000 in
set_option maxHeartbeats 4000000 in
theorem partsOfSum_any : ∀ (f n : Nat) (w : World), n ≤ f → f ≤ 7 → Calls Try.prog 45 #[.int .i64 (n : Int)] w (MadeLP w (allPF f n)) := by
  intro f
  induction f with
  | zero =>
    intro n w hn _
    obtain rfl : n = 0 := by omega
    have HL := Lib.hid (OwnLP.lit1 w.heap.size w (.slice none 0 0) [] (Own.nil _ _) (Nat.le_refl _))
    go_enter Try.func45, Try.ntmps45
    go_wp2_with fail
    go_ret
    exact ⟨_, _, rfl, HL.out.mono (Nat.le_refl _) (by simp) (Nat.le_refl _), Below.alloc1 _ _⟩
  | succ f ih =>
    intro n w hn hf
    by_cases h0 : n = 0
    · subst h0
      rw [allPF_zero]
      have HL := Lib.hid (OwnLP.lit1 w.heap.size w (.slice none 0 0) [] (Own.nil _ _) (Nat.le_refl _))
      go_enter Try.func45, Try.ntmps45
      go_wp2_with fail
      go_ret
      exact ⟨_, _, rfl, HL.out.mono (Nat.le_refl _) (by simp) (Nat.le_refl _), Below.alloc1 _ _⟩
    · have hn0 : ((n : Int) == 0) = false := by simp; omega
      rw [outPF_all h0]
      have HOL := Lib.hid (fun k (hk : k ≤ n) => outPF_len (f := f) (n := n) (k := k) (by omega) (by omega) (by omega))
      have HSUC := Lib.hid (fun k => outPF_succ f n k)
      have HCK := Lib.hid (fun k (hk : k < n) => chkP_of (f := f) (n := n - (k + 1)) (by omega) (by omega))
      have HIH := Lib.hid (fun k (hk : k < n) w => ih (n - (k + 1)) w (by omega) (by omega)); clear ih h0
      go_enter Try.func45, Try.ntmps45
      go_wp2_with fail
      go_loopw [3, 4] (fun o i wr => ∃ (k : Nat) (vs : List Value), k ≤ n ∧ i = .int .i64 ((k : Int) + 1) ∧ Hid (OwnLP w.heap.size wr.heap.size wr o vs (outPF f n k)) ∧ Hid (Below w.heap.size w wr)) (fun _ i _ => n + 1 - (intOf i).toNat)
      case atStart => exact ⟨0, [], by omega, by simp, by rw [outPF_zero]; exact OwnLP.nil _ _ (Nat.le_refl _), Below.refl _ _⟩
      case round =>
        obtain ⟨k, vs, hk, rfl, HO, HBE⟩ := hrel
        generalize wr = wa at *
        by_cases hlt : k < n
        · have hle : (k : Int) + 1 ≤ (n : Int) := by omega
          have HE1 : Hid ((n : Int) - ((k : Int) + 1) = ((n - (k + 1) : Nat) : Int)) := by show _ = _; omega
          have HC := Lib.hid (HIH.out k hlt)
          have HOK := Lib.hid (HOL.out k (by omega))
          have HSK := Lib.hid (HSUC.out k)
          unfold rowsPF at HSK
          have hu1 := (HCK.out k hlt).1
          have HU := Lib.hid (fun j (hj : j < (allPF f (n - (k + 1))).length) => (HCK.out k hlt).2 _ (getD_memL hj))
          generalize outPF f n k = O at *
          generalize allPF f (n - (k + 1)) = U at *
          have HT1 : Hid (∀ c, c < U.length → (U.take (c + 1)).map (fun r => ((k + 1 : Nat) : Int) :: r) = (U.take c).map (fun r => ((k + 1 : Nat) : Int) :: r) ++ [((k + 1 : Nat) : Int) :: U.getD c []]) := fun c hc => by
            rw [List.take_add_one, List.getElem?_eq_getElem hc, Option.toList_some, List.map_append]; simp [List.getD, hc]
          have HT2 : Hid (∀ c, (O ++ (U.take c).map (fun r => ((k + 1 : Nat) : Int) :: r)).length ≤ 1000) := fun c => by
            rw [List.length_append, List.length_map, List.length_take]; have := HOK.out; omega
          have HT3 : Hid ((U.take U.length).map (fun r => ((k + 1 : Nat) : Int) :: r) = U.map (fun r => ((k + 1 : Nat) : Int) :: r)) := by show _ = _; rw [List.take_length]
          have hwa := HBE.out.size
          go_wp2_with (go_at_call 45; rw [HE1.out]; ((with_reducible refine (HC.out _).mono ?_); rintro e w1 ⟨vu, us, rfl, hU, hb1⟩; obtain ⟨au, cu, rfl, hcu1, hcu2⟩ := hU.form; unfold maxLen at hcu2; have HUU := Lib.hid hU; have HB1 := Lib.hid hb1; clear hU hb1))
          have hz1 := HB1.out.size
          go_loopw [3, 20] (fun o i wr => ∃ (c : Nat) (vs2 : List Value), c ≤ U.length ∧ i = .int .i64 (c : Int) ∧ Hid (OwnLP w.heap.size wr.heap.size wr o vs2 (O ++ (U.take c).map (fun r => ((k + 1 : Nat) : Int) :: r))) ∧ Hid (OwnLP wa.heap.size w1.heap.size wr (.slice au U.length cu) us U) ∧ Hid (∀ q, o.ownBlock = some q → q < wa.heap.size ∨ w1.heap.size ≤ q) ∧ w1.heap.size ≤ wr.heap.size ∧ Hid (Below w.heap.size w wr)) (fun _ i _ => U.length - (intOf i).toNat)
          case atStart => exact ⟨0, vs, by omega, rfl, by simpa using Lib.hid ((OwnLP.below HO.out HB1.out).mono (Nat.le_refl _) hz1 (Nat.le_refl _)), HUU, Lib.hid (fun q hq => .inl (HO.out.inn q hq).2), Nat.le_refl _, Lib.hid (Below.step HBE.out HB1.out)⟩
          case round =>
            obtain ⟨c, vs2, hc, rfl, HO2, HU2, HOB, hwc, HB2⟩ := hrel
            clear HO HUU HB1
            generalize wr = wc at *
            by_cases hcl : c < U.length
            · obtain ⟨gu, rfl, _, _, hcell, _⟩ := HU2.out.at (by omega)
              have hcc := hcell c hcl
              have hrow := HU2.out.own c hcl
              generalize hv : rowV us c = rv at *
              obtain ⟨r1, r2, r3, rfl⟩ := hrow.form'
              have HR := Lib.hid hrow
              have HTT := Lib.hid (HT1.out c hcl)
              have HLL := Lib.hid (HT2.out c)
              have HRL := Lib.hid (HU.out c hcl)
              generalize hSS : O ++ (U.take c).map (fun r => ((k + 1 : Nat) : Int) :: r) = S at *
              have HSQ := Lib.hid hSS
              clear hSS
              generalize hrr : U.getD c [] = rr at *
              clear hcell hrow hv hrr
              have hb4 := below2 wc (.cells #[.int .i64 ((k : Int) + 1)] 3) (.cells #[.slice (some ⟨wc.heap.size, 0, none⟩) 1 1, .slice r1 r2 r3] 56)
              have hl4 := Rd.below (Own.rd (Own.lit1 0 wc ((k : Int) + 1) (Nat.zero_le _))) (Below.alloc1 _ (.cells #[.slice (some ⟨wc.heap.size, 0, none⟩) 1 1, .slice r1 r2 r3] 56))
              have hx := Box2.at1 56 wc (.cells #[.int .i64 ((k : Int) + 1)] 3) (.slice (some ⟨wc.heap.size, 0, none⟩) 1 1) (.slice r1 r2 r3)
              have HCP := Lib.hid (concatP_any (wc.heap.size + 1) _ _ [((k : Int) + 1)] rr _ hx.c0 hx.c1 hl4 (HR.out.rd.below hb4) (by simp) (by have := HRL.out; omega))
              have HB4 := Lib.hid hb4
              clear hb4 hl4 hx
              go_wp2_with (first
                | (go_at_call 57; ((with_reducible refine HCP.out.mono ?_); rintro e w6 ⟨v6, rfl, ho6, hb6⟩; obtain ⟨y1, y2, y3, rfl⟩ := ho6.form'; have HO6 := Lib.hid (ho6.mono HB4.out.size); have HB6 := Lib.hid (Below.step HB4.out hb6); clear ho6 hb6))
                | (at_builtin; refine wp_appendLP _ rfl _ _ rfl w.heap.size wc.heap.size wc.heap.size w6.heap.size _ (.slice y1 y2 y3) vs2 S ([((k : Int) + 1)] ++ rr) rfl rfl (cell_lit1 w6 (.slice y1 y2 y3) _) (OwnLP.below HO2.out (HB6.out.alloc HB6.out.size _)) (HO6.out.below (Below.alloc1 _ _)) (Nat.le_refl _) HB2.out.size (by have := HLL.out; omega) (by have := HB6.out.size; have := HB2.out.size; simp; omega) ?_; intro o7 w7 ho7 hg7 hb7 hw7; have HO7 := Lib.hid ho7; have HB67 := Lib.hid (HB6.out.alloc HB6.out.size (.cells #[.slice y1 y2 y3] 56)); have HU7 := Lib.hid ((OwnLP.below HU2.out HB67.out).grown hg7 (fun q e => HOB.out q e)); have HOB7 : Hid (∀ q, o7.ownBlock = some q → q < wa.heap.size ∨ w1.heap.size ≤ q) := Lib.hid (fun q hq => by rcases hw7 q hq with h | h; exact HOB.out q h; exact .inr (by have := HB67.out.size; omega)); have HZ7 : Hid (w1.heap.size ≤ w7.heap.size) := Lib.hid (by have := HB67.out.size; have := hg7.size; omega); have HB7 := Lib.hid ((Below.step HB2.out HB67.out).trans hb7); clear ho7 hg7 hb7 hw7))
              go_roundw
              case rel => exact ⟨c + 1, _, by omega, by go_num, by rw [HTT.out, ← List.append_assoc, HSQ.out, show ((k + 1 : Nat) : Int) = (k : Int) + 1 by omega]; exact HO7, HU7, HOB7, HZ7.out, HB7⟩
              case measure => simp [intOf]; omega
            · obtain rfl : c = U.length := by omega
              have HX := HO2
              rw [HT3.out, ← HSK.out] at HX
              go_wp2_with fail
              go_roundw
              case rel => exact ⟨k + 1, vs2, by omega, by go_num, HX, HB2⟩
              case measure => simp [intOf]; omega
        · obtain rfl : k = n := by omega
          obtain ⟨a5, c5, rfl, _⟩ := HO.out.form
          go_wp2_with fail
          go_ret
          exact ⟨_, _, rfl, HO.out, HBE.out⟩
set_option maxRecDepth 100000 in
set_option maxHeartbeats 4000000 in
theorem swAll_any : ∀ (f n : Nat) (w : World), n ≤ f → f ≤ 7 → Calls Try.prog 44 #[.int .i64 (n : Int)] w (MadeLL w (allPF f n)) := by
  intro f
  induction f with
  | zero =>
    intro n w hn _
    obtain rfl : n = 0 := by omega
    have HL := Lib.hid (OwnLL.lit1 w.heap.size w (.slice none 0 0) [] (Own.nil _ _) (Nat.le_refl _))
    go_enter Try.func44, Try.ntmps44
    go_wp2_with fail
    go_ret
    exact ⟨_, _, rfl, HL.out.mono (Nat.le_refl _) (by simp) (Nat.le_refl _), Below.alloc1 _ _⟩
  | succ f ih =>
    intro n w hn hf
    by_cases h0 : n = 0
    · subst h0
      rw [allPF_zero]
      have HL := Lib.hid (OwnLL.lit1 w.heap.size w (.slice none 0 0) [] (Own.nil _ _) (Nat.le_refl _))
      go_enter Try.func44, Try.ntmps44
      go_wp2_with fail
      go_ret
      exact ⟨_, _, rfl, HL.out.mono (Nat.le_refl _) (by simp) (Nat.le_refl _), Below.alloc1 _ _⟩
    · have hn0 : ((n : Int) == 0) = false := by simp; omega
      rw [outPF_all h0]
      have HOL := Lib.hid (fun k (hk : k ≤ n) => outPF_len (f := f) (n := n) (k := k) (by omega) (by omega) (by omega))
      have HSUC := Lib.hid (fun k => outPF_succ f n k)
      have HCK := Lib.hid (fun k (hk : k < n) => chkP_of (f := f) (n := n - (k + 1)) (by omega) (by omega))
      have HIH := Lib.hid (fun k (hk : k < n) w => ih (n - (k + 1)) w (by omega) (by omega)); clear ih h0
      go_enter Try.func44, Try.ntmps44
      go_wp2_with fail
      go_loopw [3, 4] (fun o i wr => ∃ (k : Nat) (vs : List Value), k ≤ n ∧ i = .int .i64 ((k : Int) + 1) ∧ Hid (OwnLL w.heap.size wr.heap.size wr o vs (outPF f n k)) ∧ Hid (Below w.heap.size w wr)) (fun _ i _ => n + 1 - (intOf i).toNat)
      case atStart => exact ⟨0, [], by omega, by simp, by rw [outPF_zero]; exact OwnLL.nil _ _ (Nat.le_refl _), Below.refl _ _⟩
      case round =>
        obtain ⟨k, vs, hk, rfl, HO, HBE⟩ := hrel
        generalize wr = wa at *
        by_cases hlt : k < n
        · have hle : (k : Int) + 1 ≤ (n : Int) := by omega
          have HE1 : Hid ((n : Int) - ((k : Int) + 1) = ((n - (k + 1) : Nat) : Int)) := by show _ = _; omega
          have HC := Lib.hid (HIH.out k hlt)
          have HOK := Lib.hid (HOL.out k (by omega))
          have HSK := Lib.hid (HSUC.out k)
          unfold rowsPF at HSK
          have hu1 := (HCK.out k hlt).1
          have HU := Lib.hid (fun j (hj : j < (allPF f (n - (k + 1))).length) => (HCK.out k hlt).2 _ (getD_memL hj))
          generalize outPF f n k = O at *
          generalize allPF f (n - (k + 1)) = U at *
          have HT1 : Hid (∀ c, c < U.length → (U.take (c + 1)).map (fun r => ((k + 1 : Nat) : Int) :: r) = (U.take c).map (fun r => ((k + 1 : Nat) : Int) :: r) ++ [((k + 1 : Nat) : Int) :: U.getD c []]) := fun c hc => by
            rw [List.take_add_one, List.getElem?_eq_getElem hc, Option.toList_some, List.map_append]; simp [List.getD, hc]
          have HT2 : Hid (∀ c, (O ++ (U.take c).map (fun r => ((k + 1 : Nat) : Int) :: r)).length ≤ 1000) := fun c => by
            rw [List.length_append, List.length_map, List.length_take]; have := HOK.out; omega
          have HT3 : Hid ((U.take U.length).map (fun r => ((k + 1 : Nat) : Int) :: r) = U.map (fun r => ((k + 1 : Nat) : Int) :: r)) := by show _ = _; rw [List.take_length]
          have hwa := HBE.out.size
          go_wp2_with (go_at_call 44; rw [HE1.out]; ((with_reducible refine (HC.out _).mono ?_); rintro e w1 ⟨vu, us, rfl, hU, hb1⟩; obtain ⟨au, cu, rfl, hcu1, hcu2⟩ := hU.form; unfold maxLen at hcu2; have HUU := Lib.hid hU; have HB1 := Lib.hid hb1; clear hU hb1))
          have hz1 := HB1.out.size
          go_loopw [3, 20] (fun o i wr => ∃ (c : Nat) (vs2 : List Value), c ≤ U.length ∧ i = .int .i64 (c : Int) ∧ Hid (OwnLL w.heap.size wr.heap.size wr o vs2 (O ++ (U.take c).map (fun r => ((k + 1 : Nat) : Int) :: r))) ∧ Hid (OwnLL wa.heap.size w1.heap.size wr (.slice au U.length cu) us U) ∧ Hid (∀ q, o.ownBlock = some q → q < wa.heap.size ∨ w1.heap.size ≤ q) ∧ w1.heap.size ≤ wr.heap.size ∧ Hid (Below w.heap.size w wr)) (fun _ i _ => U.length - (intOf i).toNat)
          case atStart => exact ⟨0, vs, by omega, rfl, by simpa using Lib.hid ((OwnLL.below HO.out HB1.out).mono (Nat.le_refl _) hz1 (Nat.le_refl _)), HUU, Lib.hid (fun q hq => .inl (HO.out.inn q hq).2), Nat.le_refl _, Lib.hid (Below.step HBE.out HB1.out)⟩
          case round =>
            obtain ⟨c, vs2, hc, rfl, HO2, HU2, HOB, hwc, HB2⟩ := hrel
            clear HO HUU HB1
            generalize wr = wc at *
            by_cases hcl : c < U.length
            · obtain ⟨gu, rfl, _, _, hcell, _⟩ := HU2.out.at (by omega)
              have hcc := hcell c hcl
              have hrow := HU2.out.own c hcl
              generalize hv : rowV us c = rv at *
              obtain ⟨r1, r2, r3, rfl⟩ := hrow.form'
              have HR := Lib.hid hrow
              have HTT := Lib.hid (HT1.out c hcl)
              have HLL := Lib.hid (HT2.out c)
              have HRL := Lib.hid (HU.out c hcl)
              generalize hSS : O ++ (U.take c).map (fun r => ((k + 1 : Nat) : Int) :: r) = S at *
              have HSQ := Lib.hid hSS
              clear hSS
              generalize hrr : U.getD c [] = rr at *
              clear hcell hrow hv hrr
              have HB4 := Lib.hid (Below.alloc1 wc (.cells #[.int .i64 ((k : Int) + 1)] 3))
              go_wp2_with (first
                | (at_builtin; refine wp_append _ rfl _ _ rfl wc.heap.size _ _ [((k : Int) + 1)] rr rfl rfl (Own.lit1 wc.heap.size wc ((k : Int) + 1) (Nat.le_refl _)) (HR.out.rd.below HB4.out) (by have := HRL.out; simp; omega) (by simp) ?_; intro v6 w6 ho6 hg6 hb6; obtain ⟨y1, y2, y3, rfl⟩ := ho6.form'; have HO6 := Lib.hid ho6; have HB6 := Lib.hid (HB4.out.trans hb6); clear ho6 hg6 hb6)
                | (at_builtin; refine wp_appendLL _ rfl _ _ rfl w.heap.size wc.heap.size wc.heap.size w6.heap.size _ (.slice y1 y2 y3) vs2 S ([((k : Int) + 1)] ++ rr) rfl rfl (cell_lit1 w6 (.slice y1 y2 y3) _) (OwnLL.below HO2.out (HB6.out.alloc HB6.out.size _)) (HO6.out.below (Below.alloc1 _ _)) (Nat.le_refl _) HB2.out.size (by have := HLL.out; omega) (by have := HB6.out.size; have := HB2.out.size; simp; omega) ?_; intro o7 w7 ho7 hg7 hb7 hw7; have HO7 := Lib.hid ho7; have HB67 := Lib.hid (HB6.out.alloc HB6.out.size (.cells #[.slice y1 y2 y3] 22)); have HU7 := Lib.hid ((OwnLL.below HU2.out HB67.out).grown hg7 (fun q e => HOB.out q e)); have HOB7 : Hid (∀ q, o7.ownBlock = some q → q < wa.heap.size ∨ w1.heap.size ≤ q) := Lib.hid (fun q hq => by rcases hw7 q hq with h | h; exact HOB.out q h; exact .inr (by have := HB67.out.size; omega)); have HZ7 : Hid (w1.heap.size ≤ w7.heap.size) := Lib.hid (by have := HB67.out.size; have := hg7.size; omega); have HB7 := Lib.hid ((Below.step HB2.out HB67.out).trans hb7); clear ho7 hg7 hb7 hw7))
              go_roundw
              case rel => exact ⟨c + 1, _, by omega, by go_num, by rw [HTT.out, ← List.append_assoc, HSQ.out, show ((k + 1 : Nat) : Int) = (k : Int) + 1 by omega]; exact HO7, HU7, HOB7, HZ7.out, HB7⟩
              case measure => simp [intOf]; omega
            · obtain rfl : c = U.length := by omega
              have HX := HO2
              rw [HT3.out, ← HSK.out] at HX
              go_wp2_with fail
              go_roundw
              case rel => exact ⟨k + 1, vs2, by omega, by go_num, HX, HB2⟩
              case measure => simp [intOf]; omega
        · obtain rfl : k = n := by omega
          obtain ⟨a5, c5, rfl, _⟩ := HO.out.form
          go_wp2_with fail
          go_ret
          exact ⟨_, _, rfl, HO.out, HBE.out⟩
end Go.Proofs.Ytgaaddfipkdlaaa
