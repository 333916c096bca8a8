/- The model's exBefore: the order of two systems of one length. -/
/- The model's exPut: a row put among others in order, if it is not there. -/
/- ExchangesOf on both sides. -/
import Derived.Test.YtogjclmmjdhfeacExAt
import Derived.Test.YtogjclmmjdhfeacLLPut
import Derived.Test.YtogjclmmjdhfeacShift
import Derived.Test.YtogjclmmjdhfeacExNo
import Derived.Test.YtogjclmmjdhfeacExPath
import Derived.Test.YtogjclmmjdhfeacSemis2
import Derived.Test.YtogjclmmjdhfeacSortLL
namespace Go.Proofs.Ytogjclmmjdhfeac
open Go.RowKit
set_option linter.unusedSimpArgs false
set_option linter.unusedVariables false

theorem before_two {a b : List Int} {k : Nat} (ha : k < a.length) (hb : k < b.length) : ltL (a.drop k) (b.drop k) = if a.getD k 0 = b.getD k 0 then ltL (a.drop (k + 1)) (b.drop (k + 1)) else decide (a.getD k 0 < b.getD k 0) := by
  rw [List.drop_eq_getElem_cons ha, List.drop_eq_getElem_cons hb, ltL_cons]
  have e1 : a.getD k 0 = a[k] := by simp [List.getD, ha]
  have e2 : b.getD k 0 = b[k] := by simp [List.getD, hb]
  rw [e1, e2]
  by_cases h : a[k] = b[k]
  · rw [if_pos h, h]; simp
  · rw [if_neg h]; simp [h]
theorem before_end {a b : List Int} (h : a.length = b.length) : ltL (a.drop a.length) (b.drop a.length) = false := by
  rw [List.drop_length, h, List.drop_length]; rfl

set_option maxHeartbeats 4000000 in
set_option maxRecDepth 100000 in
theorem exBefore_any (u v : Value) (a b : List Int) (w : World) (ha : Rd w u a) (hb : Rd w v b) (hl : a.length = b.length) :
    Calls Try.prog 96 #[u, v] w fun e w' => e = .returned (.bool (ltL a b)) ∧ Below w.heap.size w w' := by
  obtain ⟨ad1, c1, rfl, hlc1, hcm1, hn1, hc1⟩ := ha
  obtain ⟨ad2, c2, rfl, hlc2, hcm2, hn2, hc2⟩ := hb
  unfold maxLen at hcm1 hcm2
  have HC1 := Lib.hid hc1; have HC2 := Lib.hid hc2
  have HT := Lib.hid (fun k => @before_two a b k); have HE := Lib.hid (before_end hl)
  rw [← hl] at hlc2
  rw [← hl]
  have HL := Lib.hid hl
  clear hc1 hc2 hn1 hn2 hl
  have h0 : Hid (ltL a b = ltL (a.drop 0) (b.drop 0)) := Lib.hid rfl
  go_enter Try.func96, Try.ntmps96
  go_wp2
  go_loopw [8] (fun i wr => ∃ k : Nat, k ≤ a.length ∧ i = .int .i64 (k : Int) ∧ Hid (ltL a b = ltL (a.drop k) (b.drop k)) ∧ Below w.heap.size w wr) (fun i _ => a.length - (intOf i).toNat)
  case atStart => exact ⟨0, by omega, rfl, h0, Below.refl _ _⟩
  case round =>
    clear h0
    obtain ⟨k, hk, rfl, he, hbel⟩ := hrel
    generalize wr = wc at *
    replace he := he.out
    by_cases hlt : k < a.length
    · obtain ⟨g1, off1, rfl, hr1⟩ : ∃ g off, ad1 = some ⟨g, off, none⟩ ∧ ∀ k, k < a.length → w.cell? ⟨g, off + k, none⟩ = some (.int .i64 (a.getD k 0)) := by
        rcases HC1.out with rfl | ⟨g, off, h1, h2⟩
        · simp at hlt
        · exact ⟨g, off, h1, h2⟩
      obtain ⟨g2, off2, rfl, hr2⟩ : ∃ g off, ad2 = some ⟨g, off, none⟩ ∧ ∀ k, k < b.length → w.cell? ⟨g, off + k, none⟩ = some (.int .i64 (b.getD k 0)) := by
        rcases HC2.out with rfl | ⟨g, off, h1, h2⟩
        · rw [HL.out] at hlt; simp at hlt
        · exact ⟨g, off, h1, h2⟩
      have hx1 := hr1 k hlt
      have hx2 := hr2 k (by rw [← HL.out]; exact hlt)
      have hb1 := World.block_lt_of_cell? w _ hx1
      have hb2 := World.block_lt_of_cell? w _ hx2
      have ht := HT.out k hlt (by rw [← HL.out]; exact hlt)
      rw [ht] at he
      clear hr1 hr2 ht
      generalize a.getD k 0 = x at *
      generalize b.getD k 0 = y at *
      have hy1 : wc.cell? ⟨g1, off1 + k, none⟩ = some (.int .i64 x) := (hbel.cell hb1).trans hx1
      have hy2 : wc.cell? ⟨g2, off2 + k, none⟩ = some (.int .i64 y) := (hbel.cell hb2).trans hx2
      have hz1 : wc.drew.cell? ⟨g1, off1 + k, none⟩ = some (.int .i64 x) := hy1
      have hz2 : wc.drew.cell? ⟨g2, off2 + k, none⟩ = some (.int .i64 y) := hy2
      have hq1 : wc.drew.drew.cell? ⟨g1, off1 + k, none⟩ = some (.int .i64 x) := hy1
      have hq2 : wc.drew.drew.cell? ⟨g2, off2 + k, none⟩ = some (.int .i64 y) := hy2
      have HBE := Lib.hid hbel
      clear hx1 hx2 hb1 hb2 hbel
      by_cases e : x = y
      · rw [if_pos e] at he
        have HEQ := Lib.hid he
        clear he
        subst e
        go_wp2_with fail
        go_region_with fail
        all_goals
          go_wp2_with fail
          go_roundw
          case rel => exact ⟨k + 1, by omega, by go_num, HEQ, HBE.out.drew⟩
          case measure => simp [intOf]; omega
      · rw [if_neg e] at he
        have HEQ := Lib.hid he
        clear he
        have hne : (x != y) = true := by simpa using e
        clear e
        go_wp2_with fail
        go_region_with fail
        all_goals
          go_wp2_with fail
          go_region_with fail
          all_goals
            go_wp2_with fail
            go_ret
            exact ⟨by rw [HEQ.out]; first | done | rfl, HBE.out.drew.drew⟩
    · obtain rfl : k = a.length := by omega
      rw [HE.out] at he
      have HEQ := Lib.hid he; have HBE := Lib.hid hbel
      clear he hbel
      go_wp2_with fail
      go_ret
      exact ⟨by rw [HEQ.out]; first | done | rfl, HBE.out⟩

end Go.Proofs.Ytogjclmmjdhfeac

namespace Go.Proofs.Ytogjclmmjdhfeac
open Go.RowKit
set_option linter.unusedSimpArgs false
set_option linter.unusedVariables false

def PutRow (lo : Nat) (w : World) (p : Value) (vs : List Value) (ls : List (List Int)) (l : List Int) (e : Ending) (w' : World) : Prop :=
  ∃ v' vs', e = .returned v' ∧ OwnLL lo w'.heap.size w' v' vs' (putSL ls l) ∧ Below w.heap.size w w'
theorem putRow_done {lo hi k : Nat} {w w3 : World} {v p v3 : Value} {vs : List Value} {ls : List (List Int)} {l : List Int} (h : OwnLL lo hi w v vs ls) (hp : Own lo w p l) (hlo : lo ≤ w.heap.size)
    (ap : ∀ i, i < ls.length → ∀ k, p.ownBlock = some k → (rowV vs i).ownBlock ≠ some k) (hk : k ≤ ls.length) (hN : putK ls l = k)
    (hr : w3.ownsRow w.heap.size 24 1 v3 (0 + k + 1 + (ls.length - k)) ([] ++ (vs.drop 0).take k ++ [p] ++ (vs.drop k).take (ls.length - k))) (h3 : Below w.heap.size w w3) : PutRow lo w p vs ls l (.returned v3) w3 := by
  rw [ins_row h.len, show 0 + k + 1 + (ls.length - k) = ls.length + 1 by omega] at hr
  refine ⟨_, insAt vs k p, rfl, ?_, h3⟩
  unfold putSL
  rw [hN]
  exact h.put hp ap hk hr hlo h3
theorem lt_less {a b : List Int} (h : ltL a b = true) : lessL a b < 0 := by
  unfold ltL at h; rw [decide_eq_true_eq] at h; exact (cmpL_less a b).1 h
theorem nlt_less {a b : List Int} (h : ltL a b = false) : 0 ≤ lessL a b := by
  unfold ltL at h; rw [decide_eq_false_iff_not] at h
  have := mt (cmpL_less a b).2 h
  omega

set_option maxHeartbeats 4000000 in
set_option maxRecDepth 100000 in
theorem exPut_row (lo hi g c0 : Nat) (p : Value) (vs : List Value) (ls : List (List Int)) (l : List Int) (w : World) (h : OwnLL lo hi w (.slice (some ⟨g, 0, none⟩) ls.length c0) vs ls) (hp : Own lo w p l) (hlo : lo ≤ w.heap.size)
    (hlc : ls.length ≤ c0) (hcm : c0 ≤ maxLen)
    (ap : ∀ i, i < ls.length → ∀ k, p.ownBlock = some k → (rowV vs i).ownBlock ≠ some k) (hn : ls.length ≤ 100000) (hs : ∀ i, i < ls.length → (ls.getD i []).length = l.length) (hne : ∀ i, i < ls.length → ls.getD i [] ≠ l) :
    Calls Try.prog 64 #[.slice (some ⟨g, 0, none⟩) ls.length c0, p] w (PutRow lo w p vs ls l) := by
  unfold maxLen at hcm
  obtain ⟨p1, p2, p3, rfl⟩ := hp.form'
  have HLESS := Lib.hid (fun k (hk : k < ls.length) (wq : World) (hb : Below w.heap.size w wq) hr => exBefore_any (rowV vs k) (.slice p1 p2 p3) (ls.getD k []) l wq ((h.own k hk).below hb).rd hr (hs k hk))
  have HSAME := Lib.hid (fun k (hk : k < ls.length) (wq : World) (hb : Below w.heap.size w wq) hr => by
    have := l1Same_any (rowV vs k) (.slice p1 p2 p3) (ls.getD k []) l wq ((h.own k hk).below hb).rd hr
    rwa [decide_eq_false (hne k hk)] at this)
  have HPK := Lib.hid (fun k => @putK_of ls l k)
  have HP := Lib.hid hp; have H := Lib.hid h; have HAP := Lib.hid ap; have HLEN := Lib.hid h.len
  have HRDP := Lib.hid (fun wq (hb : Below w.heap.size w wq) => (hp.below hb).rd)
  have HCELL : Hid (∀ k, k < ls.length → ∀ wq, Below w.heap.size w wq → wq.cell? ⟨g, k, none⟩ = some (rowV vs k)) := by
    intro k hk wq hb
    obtain ⟨g', e', _, _, hcell, _⟩ := h.at (by omega)
    simp only [Option.some.injEq, Addr.mk.injEq, and_true] at e'
    subst e'
    have := hcell k hk
    exact (hb.cell (p := ⟨g, k, none⟩) (World.block_lt_of_cell? w _ this)).trans this
  clear hs hne ap hp h
  go_enter Try.func64, Try.ntmps64
  go_wp2
  go_loopw [5] (fun i wr => ∃ k : Nat, k ≤ ls.length ∧ i = .int .i64 (k : Int) ∧ Hid (∀ j, j < k → lessL (ls.getD j []) l < 0) ∧ Below w.heap.size w wr) (fun i _ => ls.length - (intOf i).toNat)
  case atStart => exact ⟨0, by omega, rfl, Lib.hid (fun j hj => absurd hj (Nat.not_lt_zero _)), Below.refl _ _⟩
  case round =>
    obtain ⟨k, hk, rfl, HB, hbel⟩ := hrel
    generalize wr = wc at *
    by_cases hlt : k < ls.length
    · have hck := HCELL.out k hlt wc hbel
      have hcall := HLESS.out k hlt wc hbel (HRDP.out wc hbel)
      have hsame := fun wq hb => HSAME.out k hlt wq hb (HRDP.out wq hb)
      have hpk := HPK.out k hk HB.out
      have hst : lessL (ls.getD k []) l < 0 → Hid (∀ j, j < k + 1 → lessL (ls.getD j []) l < 0) := fun h j hj => by
        by_cases e : j < k
        · exact HB.out j e
        · obtain rfl : j = k := by omega
          exact h
      have hcell2 := fun wq hb => HCELL.out k hlt wq hb
      generalize ls.getD k [] = q at *
      obtain ⟨z1, z2, z3, hz⟩ := (H.out.own k hlt).form'
      rw [hz] at hck hcall hsame hcell2
      have HC := Lib.hid hcall; have HST := Lib.hid hst; have HPK2 := Lib.hid hpk; have HBE := Lib.hid hbel; have HSM := Lib.hid hsame; have HCL2 := Lib.hid hcell2
      clear hcall hst hpk hbel hsame hcell2
      cases hx : ltL q l with
      | true =>
        have HN := Lib.hid (HST.out (lt_less hx))
        rw [hx] at HC
        clear hx
        go_wp2_with (go_at_call 96; refine HC.out.mono ?_; rintro e w1 ⟨rfl, hb1⟩; have HB1 := Lib.hid hb1; clear hb1)
        go_roundw
        case rel => exact ⟨k + 1, by omega, by go_num, HN, Below.step HBE.out HB1.out⟩
        case measure => simp [intOf]; omega
      | false =>
        have HN := Lib.hid (HPK2.out (.inr (nlt_less hx)))
        rw [hx] at HC
        clear hx hck
        have hck := HCL2.out wc HBE.out
        have HL1 : Hid (k = ((vs.drop 0).take k).length) := by show _ = _; rw [List.length_take, List.length_drop, HLEN.out]; omega
        have HL2 : Hid (ls.length - k = ((vs.drop k).take (ls.length - k)).length) := by show _ = _; rw [List.length_take, List.length_drop, HLEN.out]; omega
        have hck2 : ¬ c0 = k := by omega
        have h2 := Lib.hid (fun w' hb => LL_hc H.out (w' := w') hb k (ls.length - k) (by omega) (c0 - k))
        have i6 : (0 : Int) ≤ (k : Int) := by omega
        have i7 : (k : Int) ≤ (c0 : Int) := by omega
        have i8 : (k : Int) ≤ (ls.length : Int) := by omega
        go_wp2_with (first
          | (go_at_call 96; refine HC.out.mono ?_; rintro e w1 ⟨rfl, hb1⟩; have HB1 := Lib.hid (Below.step HBE.out hb1); have hck1 := HCL2.out w1 HB1.out; clear hb1)
          | (go_at_call 97; refine (HSM.out _ HB1.out).mono ?_; rintro e w2 ⟨rfl, hb2⟩; have HBB := Lib.hid (Below.step HB1.out hb2); clear hb2)
          | (at_builtin; refine wp_appendV _ rfl (.tmp 34) (.tmp 37) rfl w.heap.size 0 k c0 _ [] ((vs.drop 0).take k) (some ⟨g, 0, none⟩) rfl rfl (LL_lit0 _ w2 HBB.out.size) HL1.out (LL_hc H.out (HBB.out.alloc HBB.out.size _) 0 k (by omega) c0) (ones_part H.out 0 k) (by omega) (by have := HBB.out.size; simp; omega) ?_; intro v1 wv1 hr1 hg1 hb1; have HR1 := Lib.hid hr1; have HB1' := Lib.hid ((HBB.out.alloc HBB.out.size _).trans hb1); clear hr1 hg1 hb1)
          | fail)
        have HB1 := HB1'
        have HSZ1 := Lib.hid HB1.out.size
        have HB2 := Lib.hid (HB1.out.drew.alloc HSZ1.out (.cells #[.slice p1 p2 p3] 24))
        have HBZ := Lib.hid ((Below.refl wv1.heap.size wv1).drew.alloc (Nat.le_refl _) (.cells #[.slice p1 p2 p3] 24))
        have HRW := Lib.hid (ownsRow_below HR1.out HBZ.out)
        have HCL : Hid (∀ j u, ([.slice p1 p2 p3] : List Value)[j]? = some u → (wv1.drew.alloc (.cells #[.slice p1 p2 p3] 24)).cell? ⟨wv1.heap.size, 0 + j, none⟩ = some u) := lit1_cells wv1.drew (.slice p1 p2 p3) 24
        have hS0 : Hid (Below w.heap.size w wv1.drew) := HB1.out.drew
        have HON := Lib.hid (Own.one HP.out)
        go_region_held3 (fun w' => Hid (Below w.heap.size w w'))
          (first | assumption | exact bel_alloc (by assumption) | exact HX2.out | exact HX3.out)
          (first
            | ((refine step_appendV _ (by rfl) (.tmp 39) (.tmp 41) (by rfl) w.heap.size (0 + k) 1 1 v1 ([] ++ (vs.drop 0).take k) [.slice p1 p2 p3] (some ⟨wv1.heap.size, 0, none⟩) (by rfl) (by rfl) HRW.out (by rfl) (.inr ⟨wv1.heap.size, 0, rfl, HCL.out⟩) HON.out (by omega) HB2.out.size ?_); intro v2 wv2 hr2 hg2 hb2; have HR2 := Lib.hid hr2; have HX2 := Lib.hid (HB2.out.trans hb2); have hS2 : Hid (Below w.heap.size w wv2) := HX2; clear hr2 hg2 hb2)
            | ((refine step_appendV _ (by rfl) (.tmp 42) (.tmp 45) (by rfl) w.heap.size (0 + k + 1) (ls.length - k) (c0 - k) v2 ([] ++ (vs.drop 0).take k ++ [.slice p1 p2 p3]) ((vs.drop k).take (ls.length - k)) (some ⟨g, k, none⟩) (by rfl) (by rfl) HR2.out HL2.out (h2.out _ HX2.out) (ones_part H.out k _) (by omega) HX2.out.size ?_); intro v3 wv3 hr3 hg3 hb3; have HR3 := Lib.hid hr3; have HX3 := Lib.hid (HX2.out.trans hb3); have hS3 : Hid (Below w.heap.size w wv3) := HX3; clear hr3 hg3 hb3))
        all_goals
          go_wp2
          go_ret
          exact putRow_done (vs := vs) (ls := ls) (k := k) H.out HP.out hlo HAP.out hk HN.out HR3.out HX3.out
    · have HN := Lib.hid (HPK.out k hk HB.out (.inl (by omega)))
      have hk2 : k = ls.length := by omega
      have HKL := Lib.hid hk2
      have HBE := Lib.hid hbel
      have i6 : (0 : Int) ≤ (k : Int) := by omega
      have i7 : (k : Int) ≤ (c0 : Int) := by omega
      have i8 : (k : Int) ≤ (ls.length : Int) := by omega
      clear hbel
      by_cases hck2 : c0 = k
      · obtain rfl : c0 = k := hck2
        clear hk2
        have HK2 : Hid (ls.length = c0) := HKL.out.symm
        have HL1 : Hid (c0 = ((vs.drop 0).take c0).length) := by show _ = _; rw [List.length_take, List.length_drop, HLEN.out]; omega
        have HL2 : Hid (0 = ((vs.drop c0).take (ls.length - c0)).length) := by show _ = _; rw [List.length_take, List.length_drop, HLEN.out]; omega
        go_wp2_with (first
          | (at_builtin; refine wp_appendV _ rfl (.tmp 34) (.tmp 37) rfl w.heap.size 0 c0 c0 _ [] ((vs.drop 0).take c0) (some ⟨g, 0, none⟩) rfl rfl (LL_lit0 _ wc HBE.out.size) HL1.out (LL_hc H.out (HBE.out.alloc HBE.out.size _) 0 c0 (by omega) c0) (ones_part H.out 0 c0) (by omega) (by have := HBE.out.size; simp; omega) ?_; intro v1 wv1 hr1 hg1 hb1; have HR1 := Lib.hid hr1; have HB1 := Lib.hid ((HBE.out.alloc HBE.out.size _).trans hb1); clear hr1 hg1 hb1)
          | fail)
        have HSZ1 := Lib.hid HB1.out.size
        have HB2 := Lib.hid (HB1.out.drew.alloc HSZ1.out (.cells #[.slice p1 p2 p3] 24))
        have HBZ := Lib.hid ((Below.refl wv1.heap.size wv1).drew.alloc (Nat.le_refl _) (.cells #[.slice p1 p2 p3] 24))
        have HRW := Lib.hid (ownsRow_below HR1.out HBZ.out)
        have HCL : Hid (∀ j u, ([.slice p1 p2 p3] : List Value)[j]? = some u → (wv1.drew.alloc (.cells #[.slice p1 p2 p3] 24)).cell? ⟨wv1.heap.size, 0 + j, none⟩ = some u) := lit1_cells wv1.drew (.slice p1 p2 p3) 24
        have hS0 : Hid (Below w.heap.size w wv1.drew) := HB1.out.drew
        have HON := Lib.hid (Own.one HP.out)
        go_region_held3 (fun w' => Hid (Below w.heap.size w w'))
          (first | assumption | exact bel_alloc (by assumption) | exact HX2.out | exact HX3.out)
          (first
            | ((refine step_appendV _ (by rfl) (.tmp 39) (.tmp 41) (by rfl) w.heap.size (0 + c0) 1 1 v1 ([] ++ (vs.drop 0).take c0) [.slice p1 p2 p3] (some ⟨wv1.heap.size, 0, none⟩) (by rfl) (by rfl) HRW.out (by rfl) (.inr ⟨wv1.heap.size, 0, rfl, HCL.out⟩) HON.out (by omega) HB2.out.size ?_); intro v2 wv2 hr2 hg2 hb2; have HR2 := Lib.hid hr2; have HX2 := Lib.hid (HB2.out.trans hb2); have hS2 : Hid (Below w.heap.size w wv2) := HX2; clear hr2 hg2 hb2)
            | ((refine step_appendV _ (by rfl) (.tmp 42) (.tmp 45) (by rfl) w.heap.size (0 + c0 + 1) 0 0 v2 ([] ++ (vs.drop 0).take c0 ++ [.slice p1 p2 p3]) ((vs.drop c0).take (ls.length - c0)) (some ⟨g, 0, none⟩) (by rfl) (by rfl) HR2.out HL2.out (.inl ⟨by rw [HK2.out, Nat.sub_self, List.take_zero], fun h => by cases h⟩) (ones_part H.out c0 _) (by omega) HX2.out.size ?_); intro v3 wv3 hr3 hg3 hb3; have HR3 := Lib.hid hr3; have HX3 := Lib.hid (HX2.out.trans hb3); have hS3 : Hid (Below w.heap.size w wv3) := HX3; clear hr3 hg3 hb3))
        all_goals
          go_wp2
          go_ret
          exact putRow_done (vs := vs) (ls := ls) (k := c0) H.out HP.out hlo HAP.out (by omega) HN.out (by have h := HR3.out; rwa [show 0 + c0 + 1 + 0 = 0 + c0 + 1 + (ls.length - c0) by have := HK2.out; omega] at h) HX3.out
      · clear hk2
        have HL1 : Hid (k = ((vs.drop 0).take k).length) := by show _ = _; rw [List.length_take, List.length_drop, HLEN.out]; omega
        have HL2 : Hid (ls.length - k = ((vs.drop k).take (ls.length - k)).length) := by show _ = _; rw [List.length_take, List.length_drop, HLEN.out]; omega
        have h2 := Lib.hid (fun w' hb => LL_hc H.out (w' := w') hb k (ls.length - k) (by omega) (c0 - k))
        go_wp2_with (first
          | (at_builtin; refine wp_appendV _ rfl (.tmp 34) (.tmp 37) rfl w.heap.size 0 k c0 _ [] ((vs.drop 0).take k) (some ⟨g, 0, none⟩) rfl rfl (LL_lit0 _ wc HBE.out.size) HL1.out (LL_hc H.out (HBE.out.alloc HBE.out.size _) 0 k (by omega) c0) (ones_part H.out 0 k) (by omega) (by have := HBE.out.size; simp; omega) ?_; intro v1 wv1 hr1 hg1 hb1; have HR1 := Lib.hid hr1; have HB1 := Lib.hid ((HBE.out.alloc HBE.out.size _).trans hb1); clear hr1 hg1 hb1)
          | fail)
        have HSZ1 := Lib.hid HB1.out.size
        have HB2 := Lib.hid (HB1.out.drew.alloc HSZ1.out (.cells #[.slice p1 p2 p3] 24))
        have HBZ := Lib.hid ((Below.refl wv1.heap.size wv1).drew.alloc (Nat.le_refl _) (.cells #[.slice p1 p2 p3] 24))
        have HRW := Lib.hid (ownsRow_below HR1.out HBZ.out)
        have HCL : Hid (∀ j u, ([.slice p1 p2 p3] : List Value)[j]? = some u → (wv1.drew.alloc (.cells #[.slice p1 p2 p3] 24)).cell? ⟨wv1.heap.size, 0 + j, none⟩ = some u) := lit1_cells wv1.drew (.slice p1 p2 p3) 24
        have hS0 : Hid (Below w.heap.size w wv1.drew) := HB1.out.drew
        have HON := Lib.hid (Own.one HP.out)
        go_region_held3 (fun w' => Hid (Below w.heap.size w w'))
          (first | assumption | exact bel_alloc (by assumption) | exact HX2.out | exact HX3.out)
          (first
            | ((refine step_appendV _ (by rfl) (.tmp 39) (.tmp 41) (by rfl) w.heap.size (0 + k) 1 1 v1 ([] ++ (vs.drop 0).take k) [.slice p1 p2 p3] (some ⟨wv1.heap.size, 0, none⟩) (by rfl) (by rfl) HRW.out (by rfl) (.inr ⟨wv1.heap.size, 0, rfl, HCL.out⟩) HON.out (by omega) HB2.out.size ?_); intro v2 wv2 hr2 hg2 hb2; have HR2 := Lib.hid hr2; have HX2 := Lib.hid (HB2.out.trans hb2); have hS2 : Hid (Below w.heap.size w wv2) := HX2; clear hr2 hg2 hb2)
            | ((refine step_appendV _ (by rfl) (.tmp 42) (.tmp 45) (by rfl) w.heap.size (0 + k + 1) (ls.length - k) (c0 - k) v2 ([] ++ (vs.drop 0).take k ++ [.slice p1 p2 p3]) ((vs.drop k).take (ls.length - k)) (some ⟨g, k, none⟩) (by rfl) (by rfl) HR2.out HL2.out (h2.out _ HX2.out) (ones_part H.out k _) (by omega) HX2.out.size ?_); intro v3 wv3 hr3 hg3 hb3; have HR3 := Lib.hid hr3; have HX3 := Lib.hid (HX2.out.trans hb3); have hS3 : Hid (Below w.heap.size w wv3) := HX3; clear hr3 hg3 hb3))
        all_goals
          go_wp2
          go_ret
          exact putRow_done (vs := vs) (ls := ls) (k := k) H.out HP.out hlo HAP.out hk HN.out HR3.out HX3.out

set_option maxHeartbeats 4000000 in
set_option maxRecDepth 100000 in
theorem exPut_nil (lo : Nat) (p : Value) (l : List Int) (w : World) (hp : Own lo w p l) (hlo : lo ≤ w.heap.size) :
    Calls Try.prog 64 #[.slice none 0 0, p] w (PutRow lo w p [] [] l) := by
  obtain ⟨p1, p2, p3, rfl⟩ := hp.form'
  have H : Hid (OwnLL lo w.heap.size w (.slice none 0 0) [] []) := OwnLL.nil lo w hlo
  have HP := Lib.hid hp
  have HAP : Hid (∀ i, i < ([] : List (List Int)).length → ∀ k, (Value.slice p1 p2 p3).ownBlock = some k → (rowV [] i).ownBlock ≠ some k) := fun i hi => absurd hi (Nat.not_lt_zero _)
  have HN : Hid (putK [] l = 0) := rfl
  clear hp
  go_enter Try.func64, Try.ntmps64
  go_wp2
  go_loop [5] (fun i => i = .int .i64 0) (fun i => 0)
  case atStart => rfl
  case round =>
    subst hrel
    have HL2 : Hid (0 = ([] : List Value).length) := rfl
    have HL1 : Hid (0 = ((([] : List Value).drop 0).take 0).length) := rfl
    go_wp2_with (first
      | (at_builtin; refine wp_appendV _ rfl (.tmp 34) (.tmp 37) rfl w.heap.size 0 0 0 _ [] ((([] : List Value).drop 0).take 0) none rfl rfl (LL_lit0 _ w (Nat.le_refl _)) rfl (.inl ⟨rfl, fun _ => rfl⟩) (fun u hu => by simp at hu) (by omega) (by simp) ?_; intro v1 wv1 hr1 hg1 hb1; have HR1 := Lib.hid hr1; have HB1 := Lib.hid ((Below.alloc1 w _).trans hb1); clear hr1 hg1 hb1)
      | fail)
    have HSZ1 := Lib.hid HB1.out.size
    have HB2 := Lib.hid (HB1.out.drew.alloc HSZ1.out (.cells #[.slice p1 p2 p3] 24))
    have HBZ := Lib.hid ((Below.refl wv1.heap.size wv1).drew.alloc (Nat.le_refl _) (.cells #[.slice p1 p2 p3] 24))
    have HRW := Lib.hid (ownsRow_below HR1.out HBZ.out)
    have HCL : Hid (∀ j u, ([.slice p1 p2 p3] : List Value)[j]? = some u → (wv1.drew.alloc (.cells #[.slice p1 p2 p3] 24)).cell? ⟨wv1.heap.size, 0 + j, none⟩ = some u) := lit1_cells wv1.drew (.slice p1 p2 p3) 24
    have hS0 : Hid (Below w.heap.size w wv1.drew) := HB1.out.drew
    have HON := Lib.hid (Own.one HP.out)
    go_region_held3 (fun w' => Hid (Below w.heap.size w w'))
      (first | assumption | exact bel_alloc (by assumption) | exact HX2.out | exact HX3.out)
      (first
        | ((refine step_appendV _ (by rfl) (.tmp 39) (.tmp 41) (by rfl) w.heap.size (0 + 0) 1 1 v1 ([] ++ (([] : List Value).drop 0).take 0) [.slice p1 p2 p3] (some ⟨wv1.heap.size, 0, none⟩) (by rfl) (by rfl) HRW.out (by rfl) (.inr ⟨wv1.heap.size, 0, rfl, HCL.out⟩) HON.out (by omega) HB2.out.size ?_); intro v2 wv2 hr2 hg2 hb2; have HR2 := Lib.hid hr2; have HX2 := Lib.hid (HB2.out.trans hb2); have hS2 : Hid (Below w.heap.size w wv2) := HX2; clear hr2 hg2 hb2)
        | ((refine step_appendV _ (by rfl) (.tmp 42) (.tmp 45) (by rfl) w.heap.size (0 + 0 + 1) 0 0 v2 ([] ++ (([] : List Value).drop 0).take 0 ++ [.slice p1 p2 p3]) ([]) none (by rfl) (by rfl) HR2.out HL2.out (.inl ⟨rfl, fun _ => rfl⟩) (fun u hu => by simp at hu) (by omega) HX2.out.size ?_); intro v3 wv3 hr3 hg3 hb3; have HR3 := Lib.hid hr3; have HX3 := Lib.hid (HX2.out.trans hb3); have hS3 : Hid (Below w.heap.size w wv3) := HX3; clear hr3 hg3 hb3))
    all_goals
      go_wp2
      go_ret
      exact putRow_done (vs := []) (ls := []) (k := 0) H.out HP.out hlo HAP.out (Nat.le_refl _) HN.out HR3.out HX3.out

theorem exPut_any (lo hi : Nat) (v p : Value) (vs : List Value) (ls : List (List Int)) (l : List Int) (w : World) (h : OwnLL lo hi w v vs ls) (hp : Own lo w p l) (hlo : lo ≤ w.heap.size)
    (ap : ∀ i, i < ls.length → ∀ k, p.ownBlock = some k → (rowV vs i).ownBlock ≠ some k) (hn : ls.length ≤ 100000) (hs : ∀ i, i < ls.length → (ls.getD i []).length = l.length) (hne : ∀ i, i < ls.length → ls.getD i [] ≠ l) :
    Calls Try.prog 64 #[v, p] w (PutRow lo w p vs ls l) := by
  rcases h.shape with ⟨rfl, rfl⟩ | ⟨g, c, rfl, _, _, h1, h2, _⟩
  · obtain rfl : vs = [] := List.eq_nil_of_length_eq_zero (by rw [h.len]; rfl)
    exact exPut_nil lo p l w hp hlo
  · exact exPut_row lo hi g c p vs ls l w h hp hlo h1 h2 ap hn hs hne

end Go.Proofs.Ytogjclmmjdhfeac

section
namespace Go.Proofs.Ytogjclmmjdhfeac
open Go.RowKit
set_option linter.unusedSimpArgs false
set_option linter.unusedVariables false

def ok_ExchangesOf (l : List Int) : Bool := goodB l
def res_ExchangesOf (l : List Int) : List (List Int) := if goodB l then putAll (exsL l) else []
theorem exs_len (l : List Int) : (exsL l).length = (pairsL l).length := by unfold exsL; rw [List.length_map]
theorem exs_get {l : List Int} {k : Nat} (h : k < (pairsL l).length) : (exsL l).getD k [] = exP l ((pairsL l).getD k []) := by
  unfold exsL
  simp [List.getD, h]
theorem exs_row {l r : List Int} (h : r ∈ exsL l) : r.length = l.length := by
  unfold exsL at h
  obtain ⟨p, _, rfl⟩ := List.mem_map.1 h
  exact exL_length l _ _
theorem len_ExchangesOf (l : List Int) : tot (res_ExchangesOf l) ≤ 1000000 ∧ ∀ i, i < (res_ExchangesOf l).length → ((res_ExchangesOf l).getD i []).length ≤ 1000000 := by
  unfold res_ExchangesOf
  split
  · next h =>
    have h3 : ∀ i, i < (putAll (exsL l)).length → ((putAll (exsL l)).getD i []).length ≤ 12 := fun i hi => by
      have hm : (putAll (exsL l)).getD i [] ∈ putAll (exsL l) := by simp [List.getD, hi]
      rw [exs_row (putAll_mem.1 hm)]; exact good_len' h
    refine ⟨?_, fun i hi => Nat.le_trans (h3 i hi) (by omega)⟩
    have a := tot_le h3
    have b := (ex_facts h).2.2.2
    rw [putAll_length, exs_len] at a
    omega
  · exact ⟨by simp [tot], fun i hi => by simp at hi⟩
/-- one more put in -/
theorem exs_step {l : List Int} {k : Nat} (h : k < (exsL l).length) : putSL (putAll ((exsL l).take k)) ((exsL l).getD k []) = putAll ((exsL l).take (k + 1)) := by
  rw [List.take_succ_eq_append_getElem h, putAll_snoc]
  simp [List.getD, h]
theorem exs_fresh {l : List Int} {k : Nat} (hg : goodB l = true) (h : k < (exsL l).length) : ∀ i, i < (putAll ((exsL l).take k)).length → (putAll ((exsL l).take k)).getD i [] ≠ (exsL l).getD k [] := by
  intro i hi e
  have hm : (putAll ((exsL l).take k)).getD i [] ∈ putAll ((exsL l).take k) := by simp [List.getD, hi]
  rw [putAll_mem, e] at hm
  obtain ⟨j, hj, e2⟩ := List.mem_iff_getElem.1 hm
  rw [List.length_take] at hj
  rw [List.getElem_take] at e2
  have hp := List.pairwise_iff_getElem.1 (exs_apart hg) j k (by omega) h (by omega)
  apply hp
  rw [e2]
  simp [List.getD, h]
theorem exs_same {l : List Int} {k : Nat} (h : k < (exsL l).length) : ∀ i, i < (putAll ((exsL l).take k)).length → ((putAll ((exsL l).take k)).getD i []).length = ((exsL l).getD k []).length := by
  intro i hi
  have hm : (putAll ((exsL l).take k)).getD i [] ∈ putAll ((exsL l).take k) := by simp [List.getD, hi]
  have h1 := exs_row (List.mem_of_mem_take (putAll_mem.1 hm))
  have hm2 : (exsL l).getD k [] ∈ exsL l := by simp [List.getD, h]
  rw [h1, exs_row hm2]

set_option maxHeartbeats 4000000 in
set_option maxRecDepth 100000 in
theorem spec_EO_yes (l : List Int) (w : World) (u : Value) (h : Rd w u l) (m : l.length ≤ 1048576) (hg : goodB l = true) :
    Calls Try.prog 26 #[u] w (GivesLL w (putAll (exsL l)) true) := by
  have hgood := ahGood_any u l w h m
  rw [hg] at hgood
  have HA := Lib.hid hgood
  have HP := Lib.hid (fun w h => exPairs_any l w u h hg)
  have HE : Hid (∀ k, k < (pairsL l).length → ∀ r0 r1 : Int, (pairsL l).getD k [] = [r0, r1] → ∀ w, Rd w u l → Calls Try.prog 58 #[u, .int .i64 r0, .int .i64 r1] w (Made w ((exsL l).getD k []))) := by
    intro k hk r0 r1 he w hr
    have hm : (pairsL l).getD k [] ∈ pairsL l := by simp [List.getD, hk]
    obtain ⟨i, j, h1, h2, _, h4⟩ := pairs_mem.1 hm
    rw [exs_get hk, he]
    rw [he] at h4
    simp only [List.cons.injEq, and_true] at h4
    obtain ⟨rfl, rfl⟩ := h4
    exact exAt_any l i j w u hr hg h1 h2
  have HT : Hid (∀ r ∈ pairsL l, r.length = 2) := fun r hr => by obtain ⟨i, j, _, _, _, rfl⟩ := pairs_mem.1 hr; rfl
  have hle := (ex_facts hg).2.2.2
  have HST := Lib.hid (fun k (hk : k < (pairsL l).length) => @exs_step l k (by rw [exs_len]; exact hk))
  have HFR := Lib.hid (fun k (hk : k < (pairsL l).length) => @exs_fresh l k hg (by rw [exs_len]; exact hk))
  have HSA := Lib.hid (fun k (hk : k < (pairsL l).length) => @exs_same l k (by rw [exs_len]; exact hk))
  have HLN : Hid (∀ k, k ≤ (pairsL l).length → (putAll ((exsL l).take k)).length ≤ 66) := fun k hk => by rw [putAll_length, List.length_take, exs_len]; omega
  have HEND : Hid ((exsL l).take (pairsL l).length = exsL l) := by show _ = _; rw [← exs_len, List.take_length]
  have HZ : Hid (putAll ((exsL l).take 0) = []) := rfl
  generalize exsL l = E at *
  generalize pairsL l = P at *
  have H0 := Lib.hid h
  obtain ⟨a0, c0, rfl, _⟩ := h
  clear hgood hg m
  go_enter Try.func26, Try.ntmps26
  go_wp2_with (first
    | (go_at_call 46; ((with_reducible refine HA.out.mono ?_); rintro e w0 ⟨rfl, hb0⟩; have HB0 := Lib.hid hb0; have H1 := Lib.hid (H0.out.below hb0); clear hb0))
    | (go_at_call 54; ((refine (HP.out _ H1.out).mono ?_); rintro e w1 ⟨vf, us, rfl, hU, hb1⟩; obtain ⟨au, cu, rfl, hcu1, hcu2⟩ := hU.form; unfold maxLen at hcu2; have HU := Lib.hid (hU.mono HB0.out.size (Nat.le_refl _) (Nat.le_refl _)); have HB1 := Lib.hid (Below.step HB0.out hb1); clear hU hb1)))
  have hsz1 := HB1.out.size
  go_loopw [4, 13] (fun o i' wr => ∃ (k : Nat) (vs : List Value), k ≤ P.length ∧ i' = .int .i64 (k : Int) ∧ OwnLL w.heap.size wr.heap.size wr o vs (putAll (E.take k)) ∧ Below w1.heap.size w1 wr) (fun _ i _ => P.length - (intOf i).toNat)
  case atStart => exact ⟨0, [], by omega, rfl, by rw [HZ.out]; exact OwnLL.nil _ _ hsz1, Below.refl _ _⟩
  case round =>
    obtain ⟨k, vs, hk, rfl, hown, hbel⟩ := hrel
    generalize wr = wc at *
    have hszc := hbel.size
    by_cases hlt : k < P.length
    · have hU := HU.out.below hbel
      obtain ⟨gu, rfl, _, _, hcell, _⟩ := hU.at (by omega)
      have hck := hcell k hlt
      have hru := hU.own k hlt
      have hmem : P.getD k [] ∈ P := by simp [List.getD, hlt]
      have h2l := HT.out _ hmem
      have hex := HE.out k hlt
      have hst := HST.out k hlt
      have hfr := HFR.out k hlt
      have hsa := HSA.out k hlt
      have hln := HLN.out k hk
      have hln2 : (E.getD k []).length = (E.getD k []).length := rfl
      generalize P.getD k [] = r at *
      generalize rowV us k = pr at *
      generalize E.getD k [] = q at *
      generalize putAll (E.take k) = O at *
      obtain ⟨ap, cp, rfl, hcp1, hcp2⟩ := hru.form
      rw [h2l] at hcp1 hck
      unfold maxLen at hcp2
      obtain ⟨gp, rfl, k0⟩ := hru.get 0 (by omega)
      obtain ⟨gp', e', k1⟩ := hru.get 1 (by omega)
      simp only [Option.some.injEq, Addr.mk.injEq, and_true] at e'
      subst e'
      obtain ⟨r0, r1, rfl⟩ : ∃ r0 r1, r = [r0, r1] := by
        match r, h2l with
        | [x, y], _ => exact ⟨x, y, rfl⟩
      simp only [List.getD_cons_zero, List.getD_cons_succ] at k0 k1
      obtain ⟨ao, co, rfl, hco1, hco2⟩ := hown.form
      have HEX := Lib.hid (fun w => hex r0 r1 rfl w)
      have HST2 := Lib.hid hst; have HFR2 := Lib.hid hfr; have HSA2 := Lib.hid hsa; have HOW := Lib.hid hown; have HBE := Lib.hid hbel
      have hd0 : wc.drew.cell? ⟨gp, 0, none⟩ = some (.int .i64 r0) := k0
      have hd1 : wc.drew.cell? ⟨gp, 1, none⟩ = some (.int .i64 r1) := k1
      have hbd : Below wc.heap.size wc wc.drew := Below.drew (Below.refl _ _)
      have HBD := Lib.hid hbd
      have hL0 : Rd wc.drew (.slice a0 l.length c0) l := H0.out.below (Below.drew (HB1.out.trans (HBE.out.mono hsz1)))
      have HSZ := Lib.hid hszc
      clear hcell hru h2l hex hst hfr hsa hown hbel hU hbd
      go_wp2_with fail
      go_region_with (first
        | (go_at_call 58; ((refine (HEX.out _ hL0).mono ?_); rintro e w2 ⟨v2, rfl, ho2, hb2⟩; obtain ⟨x1, x2, x3, rfl⟩ := ho2.form'; have HO2 : Hid (Own wc.heap.size w2 (.slice x1 x2 x3) q) := ho2; have HB2 : Hid (Below wc.heap.size wc w2) := HBD.out.trans hb2; clear ho2 hb2))
        | (go_at_call 64; ((refine (exPut_any w.heap.size _ _ _ vs O q _ (HOW.out.below HB2.out) (HO2.out.mono (by omega)) (by have := HB2.out.size; omega) (fun i hi j hj hj' => by have h1 := (HO2.out.lt j hj).1; have h2 := HOW.out.inr i hi j hj'; omega) (by omega) HSA2.out HFR2.out).mono ?_); rintro e w3 ⟨v3, vs3, rfl, ho3, hb3⟩; have HO3 := Lib.hid ho3; have HB3 := Lib.hid (Below.step HB2.out hb3); clear ho3 hb3)))
      all_goals
        go_wp2
        go_roundw
        case rel => exact ⟨k + 1, vs3, by omega, by go_num, by rw [← HST2.out]; exact HO3.out, Below.step HBE.out HB3.out⟩
        case measure => simp [intOf]; omega
    · obtain rfl : k = P.length := by omega
      rw [HEND.out] at hown
      obtain ⟨a5, c5, rfl, _⟩ := hown.form
      have HOW := Lib.hid hown; have HBE := Lib.hid hbel
      clear hown hbel
      go_wp2_with fail
      go_ret2
      exact ⟨_, vs, rfl, HOW.out, HB1.out.trans (HBE.out.mono hsz1)⟩
set_option maxHeartbeats 1000000 in
theorem spec_ExchangesOf (l : List Int) (w : World) (u : Value) (h : Rd w u l) (m : l.length ≤ 1048576) : Calls Try.prog 26 #[u] w (GivesLL w (res_ExchangesOf l) (ok_ExchangesOf l)) := by
  unfold res_ExchangesOf ok_ExchangesOf
  cases hg : goodB l with
  | true => exact spec_EO_yes l w u h m hg
  | false =>
    have hgood := fun w h => ahGood_any u l w h m
    rw [hg] at hgood
    have HA := Lib.hid hgood; have H0 := Lib.hid h; clear hg hgood
    go_enter Try.func26, Try.ntmps26
    go_wp2_with (go_at_call 46; refine (HA.out _ H0.out).mono ?_; rintro e w1 ⟨rfl, hb⟩)
    go_ret2
    exact ⟨_, [], rfl, OwnLL.nil _ _ hb.size, hb⟩

set_option maxHeartbeats 2000000 in
set_option maxRecDepth 100000 in
theorem impl_ExchangesOf (l : List Int) (w : World) (u : Value) (h : Rd w u l) (m : l.length ≤ 1048576) : Calls Try.prog 25 #[u] w (GivesLL w (res_ExchangesOf l) (ok_ExchangesOf l)) := by
  unfold res_ExchangesOf ok_ExchangesOf
  cases hg : goodB l with
  | true =>
    have hl := good_len' hg
    have HRS := Lib.hid (readSystem_yes u l w h hg)
    have HX := Lib.hid (fun w => exchanges_any l hg w)
    have HLS := Lib.hid (fun B w v ho => listsSys_any (exsL l) (fun k hk => by
      have hm : (exsL l).getD k [] ∈ exsL l := by simp [List.getD, hk]
      rw [exs_row hm]; exact hl) (by rw [exs_len]; have := (ex_facts hg).2.2.2; omega) B w v ho)
    have HSO := Lib.hid (fun lo hi v vs w ho => sortLL_any lo hi v vs (exsL l) w ho (by rw [exs_len]; have := (ex_facts hg).2.2.2; omega))
    simp only [if_true]
    generalize exsL l = E at *
    clear hg h
    go_enter Try.func25, Try.ntmps25
    go_wp2_with fail
    refine HRS.out.mono ?_
    rintro e w1 ⟨rfl, hb⟩
    have HB1 := Lib.hid hb; clear hb
    go_wp2_with (first
      | ((with_reducible refine wp_storeNew rfl (.tmp 4) (.tmp 10) rfl _ l hl rfl rfl ?_); intro w2 hs2 hb2; have HB2 := Lib.hid (Below.step HB1.out hb2); have HS2 := Lib.hid hs2; clear hs2 hb2)
      | (with_reducible refine wp_loadSys rfl (.tmp 4) rfl w1.heap.size l hl rfl HS2.out ?_)
      | (go_at_call 61; ((with_reducible refine (HX.out _).mono ?_); rintro e w3 ⟨v3, rfl, ho3, hb3⟩; have HO3 := Lib.hid ho3; have HB3 := Lib.hid (Below.step HB2.out hb3); clear ho3 hb3))
      | (go_at_call 60; ((refine (HLS.out _ _ _ HO3.out).mono ?_); rintro e w4 ⟨v4, vs4, rfl, ho4, hb4⟩; have HO4 := Lib.hid ho4; have HB4 := Lib.hid (Below.step HB3.out hb4); clear ho4 hb4))
      | (go_at_call 62; ((refine (HSO.out _ _ _ _ _ HO4.out).mono ?_); rintro e w5 ⟨rfl, ⟨vs5, ho5⟩, hb5⟩; have HO5 := Lib.hid ho5; have HB5 := Lib.hid hb5; clear ho5 hb5)))
    go_ret2
    exact ⟨_, vs5, rfl, HO5.out.mono HB3.out.size HB5.out.size (Nat.le_refl _), HB4.out.trans (HB5.out.mono HB3.out.size)⟩
  | false =>
    simp only [Bool.false_eq_true, if_false]
    have HR := Lib.hid (readSystem_no u l w h hg)
    obtain ⟨a0, c0, rfl, _⟩ := h
    clear hg
    go_enter Try.func25, Try.ntmps25
    go_wp2_with fail
    refine HR.out.mono ?_
    rintro e w1 ⟨rfl, hb⟩
    have HB1 := Lib.hid hb; clear hb
    go_wp2_with ((with_reducible refine wp_storeNew rfl (.tmp 4) (.tmp 10) rfl _ [] (Nat.zero_le _) rfl rfl ?_); intro w2 hs2 hb2; have HB2 := Lib.hid (Below.step HB1.out hb2); clear hs2 hb2)
    go_ret2
    exact ⟨_, [], rfl, OwnLL.nil _ _ HB2.out.size, HB2.out⟩

end Go.Proofs.Ytogjclmmjdhfeac
end
