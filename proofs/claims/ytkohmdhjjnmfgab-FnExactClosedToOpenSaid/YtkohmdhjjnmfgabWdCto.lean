/- ClosedToOpen: the program's function and the model's. -/
import Derived.Test.YtkohmdhjjnmfgabWdMeS
import Derived.Test.YtkohmdhjjnmfgabShift
import Derived.Test.YtkohmdhjjnmfgabStkSpec
namespace Go.Proofs.Ytkohmdhjjnmfgab
open Go.RowKit
set_option linter.unusedSimpArgs false
set_option linter.unusedVariables false

theorem WdIn.cutRange {w : World} {g : Nat} {p b : List Int} (h : WdIn w g p b) (hl : p.length ≤ 12) (q : Nat) : (w.setCell ⟨g, 12, none⟩ (.int .i64 (q : Int))).rangeAt g 0 (ptG (p ++ List.replicate (12 - p.length) 0) q) := by
  have h1 := heap_setCell_same w g 12 _ _ (.int .i64 (q : Int)) h
  have ha : (p ++ List.replicate (12 - p.length) 0).length = 12 := by simp; omega
  intro j v hv
  have hj : j < 13 := by
    have := (List.getElem?_eq_some_iff.1 hv).1
    rwa [ptG_length _ ha] at this
  rw [Nat.zero_add, cell_of_row _ g _ _ _ _ h1]
  by_cases e : j = 12
  · subst e
    rw [ptG_last q ha] at hv
    rw [← hv]
    have hs : 12 < (wdC p b).size := by simp [wdC, wdL, ptL_length hl]; omega
    simp [Array.getElem?_setIfInBounds_self, hs]
  · rw [Array.getElem?_setIfInBounds_ne (by omega)]
    rw [ptG_get q ha j (by omega)] at hv
    rw [wdC_get hl j (by omega), ← hv]
    congr 2
    simp only [List.getD, List.getElem?_append, List.getElem?_replicate]
    by_cases h1 : j < p.length
    · rw [if_pos h1]
    · rw [if_neg h1, List.getElem?_eq_none (by omega)]
      split <;> rfl
theorem wp_loadPtS {ops : Array Oper} {rest : List Oper} {o : Oper} {a : Act} {w : World} {Q : Exit → Act → World → Prop} (hgd : o.guard = none) (x : Operand) (ho : o.op = .load 51 x)
    (g : Nat) (p b : List Int) (q : Nat) (hl : p.length ≤ 12) (hx : a.eval x = .pointer (some ⟨g, 0, none⟩)) (hg : WdIn w g p b)
    (h : wpList Try.prog ops Q rest (a.put o.dst (.agg (ptG (p ++ List.replicate (12 - p.length) 0) q).toArray)) (w.setCell ⟨g, 12, none⟩ (.int .i64 (q : Int)))) : wpList Try.prog ops Q (o :: rest) a (w.setCell ⟨g, 12, none⟩ (.int .i64 (q : Int))) :=
  wpList_load_mid hgd _ x ho g 0 hx _ _ (hg.cutRange hl q) Try.underlying51 rfl (by rw [pt_info, ptG_length _ (by simp; omega)]) h

def ctoB (t b : List Int) : Bool := oneB t b && decide ((wordM t b).getD (t.length - 1) 0 = ((t.length - 1 : Nat) : Int))
def ok_ClosedToOpen (t b : List Int) : Bool := ctoB t b
def res_ClosedToOpen (t b : List Int) : List Int := if ctoB t b then (wordM t b).take (t.length - 1) else []
theorem len_ClosedToOpen (t b : List Int) : (res_ClosedToOpen t b).length ≤ 1000000 := by
  unfold res_ClosedToOpen
  split
  · next h =>
    unfold ctoB at h
    simp only [Bool.and_eq_true] at h
    obtain ⟨_, _, _, hn, _⟩ := one_facts h.1
    rw [List.length_take]; omega
  · simp

set_option maxHeartbeats 4000000 in
theorem impl_ClosedToOpen (t b : List Int) (w : World) (u1 u2 : Value) (h1 : Rd w u1 t) (h2 : Rd w u2 b) (m1 : t.length ≤ 1048576) (m2 : b.length ≤ 1048576) :
    Calls Try.prog 22 #[.agg #[u1, u2]] w (Gives w (res_ClosedToOpen t b) (ok_ClosedToOpen t b)) := by
  have hA := Box2.new 28 w u1 u2
  have B1 : Below w.heap.size w (w.alloc (.cells #[u1, u2] 28)) := Below.alloc1 w _
  have k0 := hA.c0; have k1 := hA.c1
  have hrd := wordOf_any t b _ u1 u2 (h1.below B1) (h2.below B1)
  have HB := Lib.hid B1
  unfold res_ClosedToOpen ok_ClosedToOpen ctoB
  unfold wsel wseli at hrd
  clear hA B1 h1 h2
  cases e1 : oneB t b with
  | false =>
    rw [e1, selL_no, selI_no] at hrd
    simp only [Bool.false_and, Bool.false_eq_true, if_false]
    have HR := Lib.hid hrd; have HI := Lib.hid zero12_length
    clear hrd e1
    go_enter Try.func22, Try.ntmps22
    go_wp2_with fail
    refine HR.out.mono ?_
    rintro e w1 ⟨rfl, hb1⟩
    have HB1 := Lib.hid (Below.step HB.out hb1)
    clear hb1 k0 k1
    go_wp2_with ((with_reducible refine wp_storeNewWd rfl (.tmp 4) (.tmp 10) rfl w1 [] zero12 (Nat.zero_le _) HI.out rfl rfl ?_); intro w2 hs2 hb2; have hc := hs2.size (Nat.zero_le _); have HB2 := Lib.hid (Below.step HB1.out hb2); clear hs2)
    go_ret2
    exact ⟨_, rfl, Own.nil _ _, HB2.out⟩
  | true =>
    rw [e1, selL_yes, selI_yes] at hrd
    simp only [Bool.true_and]
    obtain ⟨_, hL, hW, hn12, _, hpos⟩ := one_facts e1
    generalize wordM t b = L at *
    have hi := idxK_length L L.length
    generalize idxK L L.length = ix at *
    obtain ⟨n, hn⟩ : ∃ n, n = t.length := ⟨_, rfl⟩
    rw [← hn] at hL hn12 hpos ⊢
    obtain ⟨q, hq⟩ : ∃ q, q = n - 1 := ⟨_, rfl⟩
    rw [← hq]
    have hqn : q + 1 = n := by omega
    have hw1 : IntKind.i64.wrap ((n : Int) - 1) = (q : Int) := by rw [IntWalk.i64_in _ (by omega)]; omega
    have HP : Hid (L.length ≤ 12) := by show L.length ≤ 12; omega
    have HI := Lib.hid hi; have HR := Lib.hid hrd; have HLN := Lib.hid hL
    have hq1 : (0 : Int) ≤ (q : Int) := by omega
    have hq2 : (q : Int) < 12 := by omega
    have hq12 : q < 12 := by omega
    obtain ⟨x, hx⟩ : ∃ x, L.getD q 0 = x := ⟨_, rfl⟩
    have HX := Lib.hid hx
    clear hrd e1 hL hW hi hn hq hx
    rw [HX.out]
    by_cases hxq : x = (q : Int)
    · have hne : (x != (q : Int)) = false := by simp; exact hxq
      rw [decide_eq_true hxq]
      simp only [if_true]
      have hlist := fun w => listG_any (L ++ List.replicate (12 - L.length) 0) q w (by have := HP.out; simp; omega) (by omega)
      have htk : (L ++ List.replicate (12 - L.length) 0).take q = L.take q := List.take_append_of_le_length (by rw [HLN.out]; omega)
      rw [htk] at hlist
      have HLI := Lib.hid hlist
      generalize L.take q = out at HLI ⊢
      clear hlist htk hxq
      go_enter Try.func22, Try.ntmps22
      go_wp2_with fail
      refine HR.out.mono ?_
      rintro e w1 ⟨rfl, hb1⟩
      have HB1 := Lib.hid (Below.step HB.out hb1)
      clear hb1 k0 k1
      go_wp2_with (first
        | ((with_reducible refine wp_storeNewWd rfl (.tmp 4) (.tmp 10) rfl w1 L ix HP.out HI.out rfl rfl ?_); intro w2 hs2 hb2; have hc := hs2.size HP.out; have hc2 := hs2.cell HP.out q hq12; have hf := hs2.free 12; rw [HLN.out] at hc; rw [HX.out] at hc2; have HW2 := Lib.hid hs2; have HB2 := Lib.hid (Below.step HB1.out hb2); clear hs2)
        | (with_reducible refine wp_loadPtS rfl (.tmp 30) rfl w1.heap.size L ix q HP.out rfl HW2.out ?_)
        | (go_at_call 40; refine (HLI.out _).mono ?_; rintro e w3 ⟨v3, rfl, hown, hb3⟩))
      go_ret2
      have hB3 := HB2.out.setCell (p := ⟨w1.heap.size, 12, none⟩) HB1.out.size (.int .i64 (q : Int))
      exact ⟨_, rfl, hown.mono hB3.size, Below.step hB3 hb3⟩
    · have hne : (x != (q : Int)) = true := by simp; exact hxq
      rw [decide_eq_false hxq]
      simp only [Bool.false_eq_true, if_false]
      clear hxq
      go_enter Try.func22, Try.ntmps22
      go_wp2_with fail
      refine HR.out.mono ?_
      rintro e w1 ⟨rfl, hb1⟩
      have HB1 := Lib.hid (Below.step HB.out hb1)
      clear hb1 k0 k1
      go_wp2_with ((with_reducible refine wp_storeNewWd rfl (.tmp 4) (.tmp 10) rfl w1 L ix HP.out HI.out rfl rfl ?_); intro w2 hs2 hb2; have hc := hs2.size HP.out; have hc2 := hs2.cell HP.out q hq12; rw [HLN.out] at hc; rw [HX.out] at hc2; have HB2 := Lib.hid (Below.step HB1.out hb2); clear hs2)
      go_ret2
      exact ⟨_, rfl, Own.nil _ _, HB2.out⟩

set_option maxHeartbeats 4000000 in
theorem spec_ClosedToOpen (t b : List Int) (w : World) (u1 u2 : Value) (h1 : Rd w u1 t) (h2 : Rd w u2 b) (m1 : t.length ≤ 1048576) (m2 : b.length ≤ 1048576) :
    Calls Try.prog 21 #[.agg #[u1, u2]] w (Gives w (res_ClosedToOpen t b) (ok_ClosedToOpen t b)) := by
  unfold res_ClosedToOpen ok_ClosedToOpen ctoB
  have hA := Box2.new 28 w u1 u2
  have B1 : Below w.heap.size w (w.alloc (.cells #[u1, u2] 28)) := Below.alloc1 w _
  have k0 := hA.c0; have k1 := hA.c1
  have hrd := peSingle_any t b _ u1 u2 (h1.below B1) (h2.below B1) m1 m2
  have HB := Lib.hid B1; have HA := Lib.hid hA; have H1 := Lib.hid (h1.below B1); have H2 := Lib.hid (h2.below B1)
  clear hA B1 h1 h2
  cases e1 : oneB t b with
  | false =>
    rw [e1] at hrd
    simp only [Bool.false_and, Bool.false_eq_true, if_false]
    have HR := Lib.hid hrd; clear hrd e1
    go_enter Try.func21, Try.ntmps21
    go_wp2_with fail
    refine HR.out.mono ?_
    rintro e w1 ⟨rfl, hb1⟩
    go_wp2
    go_ret2
    exact ⟨_, rfl, Own.nil _ _, Below.step HB.out hb1⟩
  | true =>
    rw [e1] at hrd
    simp only [Bool.true_and]
    obtain ⟨hpo, hL, hW, hn12, _, hpos⟩ := one_facts e1
    obtain ⟨g1, g2, g3⟩ := pairOk_facts hpo
    have HT := Lib.hid (fun w h1 h2 => meWay_any t b g1 g2 g3 w u1 u2 h1 h2 0 hpos)
    have HR := Lib.hid hrd
    have HLN := Lib.hid hL
    clear hrd e1 g1 g2 g3 hpo hW
    unfold wordM at *
    generalize wayV (par t) (par b) t.length 0 = L at *
    obtain ⟨n, hn⟩ : ∃ n, n = t.length := ⟨_, rfl⟩
    rw [← hn] at HLN hn12 hpos ⊢
    obtain ⟨q, hq⟩ : ∃ q, q = n - 1 := ⟨_, rfl⟩
    rw [← hq]
    have hqn : q + 1 = n := by omega
    have hw1 : IntKind.i64.wrap ((n : Int) - 1) = (q : Int) := by rw [IntWalk.i64_in _ (by omega)]; omega
    have hq1 : (0 : Int) ≤ (q : Int) := by omega
    have hq2 : (q : Int) < (n : Int) := by omega
    have hqlt : q < n := by omega
    obtain ⟨x, hx⟩ : ∃ x, L.getD q 0 = x := ⟨_, rfl⟩
    have HX := Lib.hid hx
    clear hn hL hq hx
    rw [HX.out]
    by_cases hxq : x = (q : Int)
    · have hne : (x != (q : Int)) = false := by simp; exact hxq
      rw [decide_eq_true hxq]
      simp only [if_true]
      clear hxq
      go_enter Try.func21, Try.ntmps21
      go_wp2_with fail
      refine HR.out.mono ?_
      rintro e w1 ⟨rfl, hb1⟩
      have m0 := (HA.out.below hb1).c0; have m1 := (HA.out.below hb1).c1
      have H11 := Lib.hid (H1.out.below hb1); have H21 := Lib.hid (H2.out.below hb1); have HB1 := Lib.hid (Below.step HB.out hb1)
      clear hb1 k0 k1
      go_wp2_with fail
      refine (HT.out _ H11.out H21.out).mono ?_
      rintro e w2 ⟨v2, rfl, hown, hb2⟩
      have hrd := hown.rd
      obtain ⟨bb, off, c, rfl, hlc, hcm, hcell⟩ := hown.rd.at (by rw [HLN.out]; exact hpos)
      have htk := hrd.take' q (by rw [HLN.out]; omega)
      have c1 := hcell q (by rw [HLN.out]; exact hqlt)
      rw [HLN.out] at hlc ⊢
      rw [HX.out] at c1
      unfold maxLen at hcm
      have ho := l1Own_any _ (L.take q) w2 htk (by rw [List.length_take, HLN.out]; omega)
      have HO := Lib.hid ho; have HB2 := Lib.hid (Below.step HB1.out hb2)
      clear hown hcell hb2 m0 m1 hrd htk ho
      go_wp2_with (go_at_call 43; refine HO.out.mono ?_; rintro e w3 ⟨v3, rfl, hown, hb3⟩)
      go_ret2
      exact ⟨v3, rfl, hown.mono HB2.out.size, Below.step HB2.out hb3⟩
    · have hne : (x != (q : Int)) = true := by simp; exact hxq
      rw [decide_eq_false hxq]
      simp only [Bool.false_eq_true, if_false]
      clear hxq
      go_enter Try.func21, Try.ntmps21
      go_wp2_with fail
      refine HR.out.mono ?_
      rintro e w1 ⟨rfl, hb1⟩
      have m0 := (HA.out.below hb1).c0; have m1 := (HA.out.below hb1).c1
      have H11 := Lib.hid (H1.out.below hb1); have H21 := Lib.hid (H2.out.below hb1); have HB1 := Lib.hid (Below.step HB.out hb1)
      clear hb1 k0 k1
      go_wp2_with fail
      refine (HT.out _ H11.out H21.out).mono ?_
      rintro e w2 ⟨v2, rfl, hown, hb2⟩
      obtain ⟨bb, off, c, rfl, hlc, hcm, hcell⟩ := hown.rd.at (by rw [HLN.out]; exact hpos)
      have c1 := hcell q (by rw [HLN.out]; exact hqlt)
      rw [HLN.out] at hlc ⊢
      rw [HX.out] at c1
      unfold maxLen at hcm
      have HB2 := Lib.hid (Below.step HB1.out hb2)
      clear hown hcell hb2 m0 m1
      go_wp2
      go_ret2
      exact ⟨_, rfl, Own.nil _ _, HB2.out⟩

end Go.Proofs.Ytkohmdhjjnmfgab
