/- The model's pairs of arches that can be exchanged. -/
/- ExchangeAt and CountExchanges on both sides. -/
import Derived.Test.YtogjclmmjdhfeacExSpec
import Derived.Test.YtogjclmmjdhfeacLLPut
import Derived.Deep.RegionHeld3
import Derived.Laws.AppendOwnNone
import Derived.Deep.DeepCutAuto
import Derived.Deep.CutBlock
import Derived.Test.YtogjclmmjdhfeacShift
import Derived.Test.YtogjclmmjdhfeacExCh
namespace Go.Proofs.Ytogjclmmjdhfeac
open Go.RowKit
set_option linter.unusedSimpArgs false
set_option linter.unusedVariables false

theorem drop_cons {α : Type} {xs : List α} {k : Nat} (d : α) (h : k < xs.length) : xs.drop k = xs.getD k d :: xs.drop (k + 1) := by
  rw [List.drop_eq_getElem_cons h]; simp [List.getD, h]
theorem fold_drop {α β : Type} {f : β → α → β} {xs : List α} {k : Nat} {b : β} {R : β} (d : α) (h : k < xs.length) (hf : (xs.drop k).foldl f b = R) : (xs.drop (k + 1)).foldl f (f b (xs.getD k d)) = R := by
  rw [drop_cons d h] at hf; exact hf
theorem fold_end {α β : Type} {f : β → α → β} {xs : List α} {k : Nat} {b : β} {R : β} (h : ¬ k < xs.length) (hf : (xs.drop k).foldl f b = R) : b = R := by
  rw [List.drop_eq_nil_of_le (by omega)] at hf; exact hf
theorem insK_le (O : List (List Int)) (q : List Int) : ∀ n, insK O q n ≤ n
  | 0 => Nat.le_refl _
  | n + 1 => by
    rw [insK]
    split
    · exact Nat.le_succ_of_le (insK_le O q n)
    · exact Nat.le_refl _
def TwoL (O : List (List Int)) : Prop := ∀ r ∈ O, r.length = 2
theorem TwoL.at {O : List (List Int)} (h : TwoL O) {k : Nat} (hk : k < O.length) : (O.getD k []).length = 2 := h _ (by simp [List.getD, hk])
theorem insP_two {O : List (List Int)} (h : TwoL O) (i j : Int) : TwoL (insP O [i, j]) := by
  intro r hr
  rcases insAt_mem.1 hr with rfl | hr
  · rfl
  · exact h r hr
theorem insP_len (O : List (List Int)) (q : List Int) : (insP O q).length = O.length + 1 := insAt_length _ _ _

/-- rows kept, with one more among them, that was made since -/
theorem OwnLL.put2 {lo hi B : Nat} {w w' : World} {v v' p : Value} {vs : List Value} {ls : List (List Int)} {l : List Int} {k : Nat} (h : OwnLL lo hi w v vs ls) (hp : Own lo w' p l)
    (ap : ∀ i, i < ls.length → ∀ k, p.ownBlock = some k → (rowV vs i).ownBlock ≠ some k) (hk : k ≤ ls.length)
    (hr : w'.ownsRow B 24 1 v' (ls.length + 1) (insAt vs k p)) (hB : lo ≤ B) (hb : Below w.heap.size w w') : OwnLL lo w'.heap.size w' v' (insAt vs k p) (insAt ls k l) := by
  have hlen := h.len
  have hkv : k ≤ vs.length := by omega
  have hl : (insAt ls k l).length = ls.length + 1 := insAt_length _ _ _
  have hpos : ∀ i, i < ls.length + 1 → (i < k ∧ i < ls.length) ∨ i = k ∨ (k < i ∧ i - 1 < ls.length) := fun i hi => by omega
  refine ⟨Nat.le_refl _, by rw [insAt_length, hl, hlen], ?_, fun i hi => ?_, fun j hj => ?_, fun i hi j hj => ?_, fun i j hi hj hne q hq hq' => ?_⟩
  · rw [hl]
    refine ⟨hr.1, ?_⟩
    rcases hr.2 with e | ⟨g, cap, cur, e, hB2, rest⟩
    · exact .inl e
    · exact .inr ⟨g, cap, cur, e, by omega, rest⟩
  · rw [hl] at hi
    rw [rowV_ins p hkv, insAt_getD l [] hk]
    rcases hpos i hi with ⟨h1, h2⟩ | h1 | ⟨h1, h2⟩
    · simp only [if_pos h1]; exact (h.own i h2).below hb
    · have h0 : ¬ i < k := by omega
      simp only [if_neg h0, if_pos h1]; exact hp
    · have h0 : ¬ i < k := by omega
      have h3 : ¬ i = k := by omega
      simp only [if_neg h0, if_neg h3]; exact (h.own _ h2).below hb
  · have := hr.lt j hj; omega
  · rw [hl] at hi
    rw [rowV_ins p hkv] at hj
    have hs := hb.size
    have he := h.ends
    rcases hpos i hi with ⟨h1, h2⟩ | h1 | ⟨h1, h2⟩
    · rw [if_pos h1] at hj; have := h.inr i h2 j hj; omega
    · rw [if_neg (by omega), if_pos h1] at hj; have := hp.lt j hj; omega
    · rw [if_neg (by omega), if_neg (by omega)] at hj; have := h.inr _ h2 j hj; omega
  · rw [hl] at hi hj
    rw [rowV_ins p hkv] at hq hq'
    rcases hpos i hi with ⟨h1, h2⟩ | h1 | ⟨h1, h2⟩
    · rw [if_pos h1] at hq
      rcases hpos j hj with ⟨h3, h4⟩ | h3 | ⟨h3, h4⟩
      · rw [if_pos h3] at hq'; exact h.apart i j h2 h4 hne q hq hq'
      · rw [if_neg (by omega), if_pos h3] at hq'; exact ap i h2 q hq' hq
      · rw [if_neg (by omega), if_neg (by omega)] at hq'; exact h.apart i _ h2 h4 (by omega) q hq hq'
    · rw [if_neg (by omega), if_pos h1] at hq
      rcases hpos j hj with ⟨h3, h4⟩ | h3 | ⟨h3, h4⟩
      · rw [if_pos h3] at hq'; exact ap j h4 q hq hq'
      · omega
      · rw [if_neg (by omega), if_neg (by omega)] at hq'; exact ap _ h4 q hq hq'
    · rw [if_neg (by omega), if_neg (by omega)] at hq
      rcases hpos j hj with ⟨h3, h4⟩ | h3 | ⟨h3, h4⟩
      · rw [if_pos h3] at hq'; exact h.apart _ j h2 h4 (by omega) q hq hq'
      · rw [if_neg (by omega), if_pos h3] at hq'; exact ap _ h2 q hq' hq
      · rw [if_neg (by omega), if_neg (by omega)] at hq'; exact h.apart _ _ h2 h4 (by omega) q hq hq'
theorem run_appendV (w : World) (ty : TypeId) (B n m c : Nat) (v : Value) (xs ys : List Value) (ad : Option Addr) (hown : w.ownsRow B 24 1 v n xs)
    (hm : m = ys.length) (hc : ys = [] ∧ (ad = none → c = 0) ∨ ∃ g off, ad = some ⟨g, off, none⟩ ∧ ∀ j u, ys[j]? = some u → w.cell? ⟨g, off + j, none⟩ = some u) (hone : ∀ u ∈ ys, u.oneCell' = true) (hlen : n + m ≤ 1000000000) (hB : B ≤ w.heap.size) :
    ∃ v' w', (Builtin.append_ #[34, 34] ty #[v, .slice ad m c]).run Try.prog w = .ok v' w' ∧ w'.ownsRow B 24 1 v' (n + m) (xs ++ ys) ∧ w.grownBy w' v.ownBlock ∧ Below B w w' := by
  obtain ⟨i0, hi, hz0, hz1, hz2⟩ := info_parts Try.info24
  subst hm
  cases ad with
  | none =>
    have hy : ys = [] ∧ c = 0 := by
      rcases hc with ⟨h, h2⟩ | ⟨g, off, h, _⟩
      · exact ⟨h, h2 rfl⟩
      · cases h
    obtain ⟨rfl, rfl⟩ := hy
    have hrun := run_append_owned_none (P := Try.prog) (w := w) B 34 ty 24 i0 1 Try.underlying34 hi v n xs hown
    exact ⟨v, w, hrun, by simpa using hown, World.grownBy.refl _ _, Below.refl _ _⟩
  | some x0 =>
    obtain ⟨v', w', hr, h2, h3, _⟩ := run_append_own (P := Try.prog) w B 34 ty 24 i0 (.slice none 0 0) 1 24 Try.underlying34 hi hz0 hz1 hz2 rfl (by decide) v n xs hown x0 ys.length c ys (by simp) (by
      intro j y hj
      rcases hc with ⟨rfl, _⟩ | ⟨g, off, h1, h2⟩
      · simp at hj
      · simp at h1
        subst h1
        rw [Addr.add_lit]
        exact h2 j y hj) hone (by unfold maxLen; omega) (by omega) hB
    exact ⟨v', w', hr, h2, h3, below_grown h3 hB fun k hk => (World.ownsRow.lt hown k hk).1⟩
theorem step_appendV {ops : Array Oper} {o : Oper} {a : Act} {K : Act → World → Prop} {Q : Exit → Act → World → Prop} {E : Prop} (w : World) (hgd : o.guard = none) (s x : Operand)
    (ho : o.op = .call { callee := .builtin .append, args := #[s, x], argTypes := #[34, 34] })
    (B n m c : Nat) (v : Value) (xs ys : List Value) (ad : Option Addr) (hs : a.eval s = v) (hx : a.eval x = .slice ad m c) (hown : w.ownsRow B 24 1 v n xs)
    (hm : m = ys.length) (hc : ys = [] ∧ (ad = none → c = 0) ∨ ∃ g off, ad = some ⟨g, off, none⟩ ∧ ∀ j u, ys[j]? = some u → w.cell? ⟨g, off + j, none⟩ = some u) (hone : ∀ u ∈ ys, u.oneCell' = true) (hlen : n + m ≤ 1000000000) (hB : B ≤ w.heap.size)
    (h : ∀ v' w', w'.ownsRow B 24 1 v' (n + m) (xs ++ ys) → w.grownBy w' v.ownBlock → Below B w w' → K (a.put o.dst v') w') :
    if Region.wanted o (yielded ops a.tmps) = true then Oper.wp Try.prog o a w K Q else E := by
  have hw : Region.wanted o (yielded ops a.tmps) = true := by simp [Region.wanted, hgd]
  rw [if_pos hw]
  obtain ⟨v', w', hr, h2, h3, h4⟩ := run_appendV w o.type B n m c v xs ys ad hown hm hc hone hlen hB
  unfold Oper.wp execOp
  simp only [ho, resolve, invoke, builtin, Sem.run_bind, Sem.run_pure, Result.andThen_ok, List.map_toArray, List.map_cons, List.map_nil, hs, hx, hr]
  exact h v' w' h2 h3 h4

theorem bel_alloc {w W : World} {A : Obj} (h : Hid (Below w.heap.size w W)) : Hid (Below w.heap.size w (W.alloc A)) := h.out.alloc h.out.size A
/-- what is left behind: all rows as before, one more among them -/
theorem pairs_done {w w3 : World} {lo k : Nat} {v p v3 : Value} {vs : List Value} {O : List (List Int)} {l : List Int} (h : OwnLL lo w.heap.size w v vs O) (hlo : lo ≤ w.heap.size) (hk : k ≤ O.length)
    (hp : Own w.heap.size w3 p l) (hr : w3.ownsRow w.heap.size 24 1 v3 (0 + k + 1 + (O.length - k)) ([] ++ (vs.drop 0).take k ++ [p] ++ (vs.drop k).take (O.length - k))) (hb : Below w.heap.size w w3) :
    OwnLL lo w3.heap.size w3 v3 (insAt vs k p) (insAt O k l) := by
  rw [ins_row h.len, show 0 + k + 1 + (O.length - k) = O.length + 1 by omega] at hr
  refine h.put2 (hp.mono hlo) (fun i hi q hq hq' => ?_) hk hr hlo hb
  have h1 := hp.lt q hq
  have h2 := h.inr i hi q hq'
  omega

set_option maxHeartbeats 16000000 in
set_option maxRecDepth 100000 in
theorem exPairs_any (l : List Int) (w : World) (u : Value) (h : Rd w u l) (hg : goodB l = true) : Calls Try.prog 54 #[u] w (MadeLL w (pairsL l)) := by
  have HF := Lib.hid (exFaces_any l w u h hg)
  obtain ⟨hf13, hf12⟩ := faceW_small hg
  have HR : Hid ((faceW l).foldl insFace [] = pairsL l) := (ex_facts hg).1
  generalize pairsL l = R at *
  generalize faceW l = F at *
  have HF12 := Lib.hid hf12
  obtain ⟨a0, c0, rfl, _⟩ := h
  clear hf12 hg
  go_enter Try.func54, Try.ntmps54
  go_wp2_with (go_at_call 67; ((with_reducible refine HF.out.mono ?_); rintro e w1 ⟨vf, us, rfl, hU, hb1⟩; obtain ⟨au, cu, rfl, hcu1, hcu2⟩ := hU.form; unfold maxLen at hcu2))
  go_loopw [3, 15] (fun o i wr => ∃ (k : Nat) (vs : List Value) (O : List (List Int)), k ≤ F.length ∧ i = .int .i64 (k : Int) ∧ OwnLL w.heap.size wr.heap.size wr o vs O ∧ OwnLL w.heap.size w1.heap.size wr (.slice au F.length cu) us F ∧ Below w.heap.size w wr ∧ Hid (TwoL O ∧ O.length ≤ 156 * k ∧ (F.drop k).foldl insFace O = R)) (fun _ i _ => F.length - (intOf i).toNat)
  case atStart => exact ⟨0, [], [], by omega, rfl, OwnLL.nil _ _ hb1.size, hU, hb1, fun r hr => by simp at hr, by simp, HR.out⟩
  case round =>
    obtain ⟨k, vs, O, hk, rfl, hown, hUk, hbel, HO⟩ := hrel
    clear hU hb1 HR
    generalize wr = wa at *
    by_cases hlt : k < F.length
    · obtain ⟨gu, rfl, hgu0, hgu1, hcell, _⟩ := hUk.at (by omega)
      have hck := hcell k hlt
      have hru := hUk.own k hlt
      have hfd := fold_drop [] hlt HO.out.2.2
      have hfl := HF12.out k
      generalize F.getD k [] = f at *
      generalize rowV us k = pu at *
      obtain ⟨ar, cr, rfl, hcr1, hcr2⟩ := hru.form
      unfold maxLen at hcr2
      have HUK := Lib.hid hUk; have HRU := Lib.hid hru; have HBE := Lib.hid hbel; have HOW := Lib.hid hown
      have HFD : Hid (((List.range f.length).drop 0).foldl (insF f) O = insFace O f ∧ (F.drop (k + 1)).foldl insFace (insFace O f) = R) := ⟨rfl, hfd⟩
      have hszw := hbel.size
      have hsz := Nat.le_refl wa.heap.size
      clear hcell hUk hru hbel hown hfd
      generalize insFace O f = R2 at *
      go_wp2_with fail
      go_loopw [3, 21] (fun o i wr => ∃ (x : Nat) (vs : List Value) (O2 : List (List Int)), x ≤ f.length ∧ i = .int .i64 (x : Int) ∧ OwnLL w.heap.size wr.heap.size wr o vs O2 ∧ Below wa.heap.size wa wr ∧ Hid (TwoL O2 ∧ O2.length ≤ 156 * k + 12 * x ∧ ((List.range f.length).drop x).foldl (insF f) O2 = R2)) (fun _ i _ => f.length - (intOf i).toNat)
      case atStart => exact ⟨0, vs, O, by omega, rfl, HOW.out, Below.refl _ _, HO.out.1, by have := HO.out.2.1; omega, HFD.out.1⟩
      case round =>
        obtain ⟨x, vs2, O2, hx, rfl, hown, hbel, HO2⟩ := hrel
        clear HOW HO hck
        generalize wr = wb at *
        by_cases hxl : x < f.length
        · have hru2 := HRU.out.below hbel
          obtain ⟨gr, rfl, hcx⟩ := hru2.get x hxl
          have hfd := fold_drop 0 (by rw [List.length_range]; exact hxl) HO2.out.2.2
          rw [show (List.range f.length).getD x 0 = x by simp [List.getD, hxl]] at hfd
          have hR3 : (((f.take x).drop 0).foldl (fun out i => insP out [i, f.getD x 0]) O2 = insF f O2 x) := rfl
          generalize insF f O2 x = R3 at *
          generalize hjv : f.getD x 0 = jv at *
          have hx2 : x ≤ cr := by omega
          have i1 : (0 : Int) ≤ (x : Int) := by omega
          have i2 : (x : Int) ≤ (cr : Int) := by omega
          have HFD2 := Lib.hid hfd; have HR3 := Lib.hid hR3; have HRU2 := Lib.hid hru2; have HOW := Lib.hid hown; have HBE2 := Lib.hid hbel; have HO2' := HO2
          have hsz2 := hbel.size
          clear hfd hR3 hru2 hown hbel hjv
          go_wp2_with fail
          go_loopw [3, 30] (fun o i wr => ∃ (t : Nat) (vs : List Value) (O3 : List (List Int)), t ≤ x ∧ i = .int .i64 (t : Int) ∧ OwnLL w.heap.size wr.heap.size wr o vs O3 ∧ Below wb.heap.size wb wr ∧ Hid (TwoL O3 ∧ O3.length ≤ 156 * k + 12 * x + t ∧ ((f.take x).drop t).foldl (fun out i => insP out [i, jv]) O3 = R3)) (fun _ i _ => x - (intOf i).toNat)
          case atStart => exact ⟨0, vs2, O2, by omega, rfl, HOW.out, Below.refl _ _, HO2.out.1, by have := HO2.out.2.1; omega, HR3.out⟩
          case round =>
            obtain ⟨t, vs3, O3, ht, rfl, hown, hbel, HO3⟩ := hrel
            clear HOW HO2 hcx HO2' HR3
            generalize wr = wc at *
            by_cases htx : t < x
            · have hru3 := HRU2.out.below hbel
              obtain ⟨gr', hgr', hct⟩ := hru3.get t (by omega)
              simp only [Option.some.injEq, Addr.mk.injEq, and_true] at hgr'
              subst hgr'
              have hfd := fold_drop 0 (by rw [List.length_take]; omega) HO3.out.2.2
              rw [show (f.take x).getD t 0 = f.getD t 0 by simp [List.getD, htx]] at hfd
              generalize f.getD t 0 = iv at *
              have htwo := HO3.out.1
              have hlen3 : O3.length ≤ 156 * 13 + 200 := by have := HO3.out.2.1; omega
              obtain ⟨ao, co, rfl, hco1, hco2⟩ := hown.form
              unfold maxLen at hco2
              have HN2 : Hid (TwoL (insP O3 [iv, jv]) ∧ (insP O3 [iv, jv]).length ≤ 156 * k + 12 * x + (t + 1)) := ⟨insP_two htwo iv jv, by rw [insP_len]; have := HO3.out.2.1; omega⟩
              have HFD3 := Lib.hid hfd; have HRU3 := Lib.hid hru3; have HOW := Lib.hid hown; have HBE3 := Lib.hid hbel; have HTW := Lib.hid htwo; have HL3 := Lib.hid hlen3
              have hsz3 := hbel.size
              have HPU : Hid (insP O3 [iv, jv] = insAt O3 (insK O3 [iv, jv] O3.length) [iv, jv]) := rfl
              clear hfd hru3 hown hbel htwo hlen3
              generalize insP O3 [iv, jv] = O4 at *
              go_upto_block 6 with fail
              go_cut [10] (fun s10 wx => s10 = .int .i64 ((insK O3 [iv, jv] O3.length : Nat) : Int) ∧ wx = wc)
              case first =>
                go_wp2_with fail
                go_loop [10] (fun s => ∃ q : Nat, q ≤ O3.length ∧ s = .int .i64 (q : Int) ∧ Hid (insK O3 [iv, jv] O3.length = insK O3 [iv, jv] q)) (fun s => (intOf s).toNat)
                case atStart => exact ⟨O3.length, Nat.le_refl _, rfl, rfl⟩
                case round =>
                  obtain ⟨q, hq, rfl, HQ⟩ := hrel
                  by_cases hq0 : q = 0
                  · subst hq0
                    go_wp2_with fail
                    go_meet
                    case rel => exact ⟨by rw [HQ.out]; rfl, rfl⟩
                  · obtain ⟨y, hy⟩ : ∃ y, q = y + 1 := ⟨q - 1, by omega⟩
                    obtain ⟨go, rfl, _, _, hcell, _⟩ := HOW.out.at (by omega)
                    have hcy := hcell y (by omega)
                    have hro := HOW.out.own y (by omega)
                    have h2l := HTW.out.at (k := y) (by omega)
                    have hst : insK O3 [iv, jv] q = if gtP (O3.getD y []) [iv, jv] then insK O3 [iv, jv] y else q := by rw [hy]; rfl
                    have hgt : gtP (O3.getD y []) [iv, jv] = (decide (iv < (O3.getD y []).getD 0 0) || (decide ((O3.getD y []).getD 0 0 = iv) && decide (jv < (O3.getD y []).getD 1 0))) := rfl
                    rw [hgt] at hst
                    clear hgt hcell
                    generalize O3.getD y [] = r at *
                    generalize rowV vs3 y = pr at *
                    obtain ⟨ap, cp, rfl, hcp1, hcp2⟩ := hro.form
                    rw [h2l] at hcp1 hcy
                    unfold maxLen at hcp2
                    obtain ⟨gp, rfl, k0⟩ := hro.get 0 (by omega)
                    obtain ⟨gp', e', k1⟩ := hro.get 1 (by omega)
                    simp only [Option.some.injEq, Addr.mk.injEq, and_true] at e'
                    subst e'
                    generalize r.getD 0 0 = r0 at *
                    generalize r.getD 1 0 = r1 at *
                    have hw : IntKind.i64.wrap ((q : Int) - 1) = (y : Int) := by
                      rw [show (q : Int) - 1 = (y : Int) by omega]; exact IntWalk.i64_in _ (by omega)
                    have hqp : (0 : Int) < (q : Int) := by omega
                    have i5 : (y : Int) < (O3.length : Int) := by omega
                    have hyl : y < O3.length := by omega
                    have HST := Lib.hid hst; have HY := Lib.hid hy
                    clear hst hro h2l hq0 hy
                    by_cases c1 : iv < r0
                    · have HN : Hid (insK O3 [iv, jv] O3.length = insK O3 [iv, jv] y) := HQ.out.trans (HST.out.trans (by simp [c1]))
                      go_wp2_with fail
                      go_round
                      case rel => exact ⟨y, by omega, rfl, HN.out⟩
                      case measure => have := HY.out; simp [intOf]; omega
                    · by_cases c2 : r0 = iv
                      · subst c2
                        by_cases c3 : jv < r1
                        · have HN : Hid (insK O3 [r0, jv] O3.length = insK O3 [r0, jv] y) := HQ.out.trans (HST.out.trans (by simp [c3]))
                          go_wp2_with fail
                          go_round
                          case rel => exact ⟨y, by omega, rfl, HN.out⟩
                          case measure => have := HY.out; simp [intOf]; omega
                        · have HN : Hid (insK O3 [r0, jv] O3.length = q) := HQ.out.trans (HST.out.trans (by rw [decide_eq_false c3]; simp))
                          go_wp2_with fail
                          go_meet
                          case rel => exact ⟨by rw [HN.out], rfl⟩
                      · have c2' : (r0 == iv) = false := by simp [c2]
                        have HN : Hid (insK O3 [iv, jv] O3.length = q) := HQ.out.trans (HST.out.trans (by rw [decide_eq_false c1, decide_eq_false c2]; rfl))
                        go_wp2_with fail
                        go_meet
                        case rel => exact ⟨by rw [HN.out], rfl⟩
              case rest =>
              obtain ⟨rfl, rfl⟩ := hcut
              have hql := insK_le O3 [iv, jv] O3.length
              generalize insK O3 [iv, jv] O3.length = q at *
              have HLEN := Lib.hid HOW.out.len
              have hL3 := HL3.out
              by_cases hn0 : ao = none
              · have hO : O3 = [] ∧ co = 0 := by
                  rcases HOW.out.shape with ⟨e1, e2⟩ | ⟨g, c, e1, _⟩
                  · simp at e1; exact ⟨e2, e1.2.2⟩
                  · simp at e1; rw [hn0] at e1; simp at e1
                obtain ⟨rfl, rfl⟩ := hO
                subst hn0
                obtain rfl : q = 0 := by simpa using hql
                have hvs : vs3 = [] := List.eq_nil_of_length_eq_zero (by rw [HLEN.out]; rfl)
                subst hvs
                have HL1 : Hid (0 = ((([] : List Value).drop 0).take 0).length) := rfl
                have HL2 : Hid (0 = ((([] : List Value).drop 0).take (0 - 0)).length) := rfl
                go_wp2_with (first
                  | (at_builtin; refine wp_appendV _ rfl (.tmp 73) (.tmp 76) rfl wc.heap.size 0 0 0 _ [] ((([] : List Value).drop 0).take 0) none rfl rfl (LL_lit0 _ wc (Nat.le_refl _)) HL1.out (.inl ⟨rfl, fun _ => rfl⟩) (ones_part HOW.out 0 0) (by omega) (by simp) ?_; intro v1 wv1 hr1 hg1 hb1; have HR1 := Lib.hid hr1; have HB1 := Lib.hid ((Below.alloc1 wc (.cells #[] 24)).trans hb1); clear hr1 hg1 hb1)
                  | fail)
                have HSZ1 := Lib.hid HB1.out.size
                have HW2 := Lib.hid ((Below.refl wv1.heap.size wv1).drew.alloc (Nat.le_refl _) (.cells #[.int .i64 iv, .int .i64 jv] 3))
                have HW3 := Lib.hid (HW2.out.alloc HW2.out.size (.cells #[.slice (some ⟨wv1.heap.size, 0, none⟩) 2 2] 24))
                have HP1 : Hid (Own wc.heap.size ((wv1.drew).alloc (.cells #[.int .i64 iv, .int .i64 jv] 3)) (.slice (some ⟨wv1.heap.size, 0, none⟩) 2 2) [iv, jv]) := Own.lit2 wc.heap.size wv1.drew iv jv HSZ1.out
                have HP3 := Lib.hid (HP1.out.below (Below.alloc1 _ (.cells #[.slice (some ⟨wv1.heap.size, 0, none⟩) 2 2] 24)))
                have HRW := Lib.hid (ownsRow_below HR1.out HW3.out)
                have HCL : Hid (∀ j u, ([.slice (some ⟨wv1.heap.size, 0, none⟩) 2 2] : List Value)[j]? = some u → (((wv1.drew).alloc (.cells #[.int .i64 iv, .int .i64 jv] 3)).alloc (.cells #[.slice (some ⟨wv1.heap.size, 0, none⟩) 2 2] 24)).cell? ⟨wv1.heap.size + 1, 0 + j, none⟩ = some u) := by
                  have := lit1_cells ((wv1.drew).alloc (.cells #[.int .i64 iv, .int .i64 jv] 3)) (.slice (some ⟨wv1.heap.size, 0, none⟩) 2 2) 24
                  rw [World.size_alloc] at this
                  exact this
                have HB83 := Lib.hid (HB1.out.trans (HW3.out.mono HSZ1.out))
                have hS0 : Hid (Below wc.heap.size wc wv1.drew) := HB1.out.drew
                go_region_held3 (fun w' => Hid (Below wc.heap.size wc w'))
                  (first | assumption | exact bel_alloc (by assumption) | exact HX2.out | exact HX3.out)
                  (first
                    | ((refine step_appendV _ (by rfl) (.tmp 78) (.tmp 82) (by rfl) wc.heap.size (0 + 0) 1 1 v1 ([] ++ (([] : List Value).drop 0).take 0) [.slice (some ⟨wv1.heap.size, 0, none⟩) 2 2] (some ⟨wv1.heap.size + 1, 0, none⟩) (by rfl) (by rfl) HRW.out (by rfl) (.inr ⟨wv1.heap.size + 1, 0, rfl, HCL.out⟩) (Own.one HP3.out) (by omega) HB83.out.size ?_); intro v2 wv2 hr2 hg2 hb2; have HR2 := Lib.hid hr2; have HP4 := Lib.hid (HP3.out.keptLL HRW.out hg2); have HX2 := Lib.hid (HB83.out.trans hb2); have hS2 : Hid (Below wc.heap.size wc wv2) := HX2; clear hr2 hg2 hb2)
                    | ((refine step_appendV _ (by rfl) (.tmp 83) (.tmp 86) (by rfl) wc.heap.size (0 + 0 + 1) 0 0 v2 ([] ++ (([] : List Value).drop 0).take 0 ++ [.slice (some ⟨wv1.heap.size, 0, none⟩) 2 2]) ((([] : List Value).drop 0).take (0 - 0)) none (by rfl) (by rfl) HR2.out HL2.out (.inl ⟨rfl, fun _ => rfl⟩) (ones_part HOW.out 0 _) (by omega) HX2.out.size ?_); intro v3 wv3 hr3 hg3 hb3; have HR3 := Lib.hid hr3; have HP5 := Lib.hid (HP4.out.keptLL HR2.out hg3); have HX3 := Lib.hid (HX2.out.trans hb3); have hS3 : Hid (Below wc.heap.size wc wv3) := HX3; clear hr3 hg3 hb3))
                all_goals
                  go_wp2
                  go_roundw
                  case rel => exact ⟨t + 1, _, O4, by omega, by go_num, by rw [HPU.out]; exact pairs_done HOW.out (Nat.le_trans hszw (Nat.le_trans hsz (Nat.le_trans hsz2 hsz3))) (Nat.le_refl _) HP5.out HR3.out HX3.out, Below.step HBE3.out HX3.out, HN2.out.1, HN2.out.2, HFD3.out⟩
                  case measure => simp [intOf]; omega
              · obtain ⟨g, hg⟩ : ∃ g, ao = some ⟨g, 0, none⟩ := by
                  rcases HOW.out.shape with ⟨e1, e2⟩ | ⟨g, c, e1, _⟩
                  · simp at e1; exact absurd e1.1 hn0
                  · simp at e1; exact ⟨g, e1.1⟩
                subst hg
                clear hn0
                have HL1 : Hid (q = ((vs3.drop 0).take q).length) := by show _ = _; rw [List.length_take, List.length_drop, HLEN.out]; omega
                have i6 : (0 : Int) ≤ (q : Int) := by omega
                have i7 : (q : Int) ≤ (co : Int) := by omega
                have i8 : (q : Int) ≤ (O3.length : Int) := by omega
                have h1 := Lib.hid (LL_hc HOW.out (w' := wc.alloc (.cells #[] 24)) (Below.alloc1 _ _) 0 q (by omega) co)
                by_cases hck : co = q
                · have e9 : O3.length = q := by omega
                  have HK2 := Lib.hid e9
                  have HL2 : Hid (0 = ((vs3.drop q).take (O3.length - q)).length) := by show _ = _; rw [List.length_take, List.length_drop, HLEN.out]; omega
                  subst hck
                  clear e9
                  go_wp2_with (first
                    | (at_builtin; refine wp_appendV _ rfl (.tmp 73) (.tmp 76) rfl wc.heap.size 0 co co _ [] ((vs3.drop 0).take co) (some ⟨g, 0, none⟩) rfl rfl (LL_lit0 _ wc (Nat.le_refl _)) HL1.out h1.out (ones_part HOW.out 0 co) (by omega) (by simp) ?_; intro v1 wv1 hr1 hg1 hb1; have HR1 := Lib.hid hr1; have HB1 := Lib.hid ((Below.alloc1 wc (.cells #[] 24)).trans hb1); clear hr1 hg1 hb1)
                    | fail)
                  have HSZ1 := Lib.hid HB1.out.size
                  have HW2 := Lib.hid ((Below.refl wv1.heap.size wv1).drew.alloc (Nat.le_refl _) (.cells #[.int .i64 iv, .int .i64 jv] 3))
                  have HW3 := Lib.hid (HW2.out.alloc HW2.out.size (.cells #[.slice (some ⟨wv1.heap.size, 0, none⟩) 2 2] 24))
                  have HP1 : Hid (Own wc.heap.size ((wv1.drew).alloc (.cells #[.int .i64 iv, .int .i64 jv] 3)) (.slice (some ⟨wv1.heap.size, 0, none⟩) 2 2) [iv, jv]) := Own.lit2 wc.heap.size wv1.drew iv jv HSZ1.out
                  have HP3 := Lib.hid (HP1.out.below (Below.alloc1 _ (.cells #[.slice (some ⟨wv1.heap.size, 0, none⟩) 2 2] 24)))
                  have HRW := Lib.hid (ownsRow_below HR1.out HW3.out)
                  have HCL : Hid (∀ j u, ([.slice (some ⟨wv1.heap.size, 0, none⟩) 2 2] : List Value)[j]? = some u → (((wv1.drew).alloc (.cells #[.int .i64 iv, .int .i64 jv] 3)).alloc (.cells #[.slice (some ⟨wv1.heap.size, 0, none⟩) 2 2] 24)).cell? ⟨wv1.heap.size + 1, 0 + j, none⟩ = some u) := by
                    have := lit1_cells ((wv1.drew).alloc (.cells #[.int .i64 iv, .int .i64 jv] 3)) (.slice (some ⟨wv1.heap.size, 0, none⟩) 2 2) 24
                    rw [World.size_alloc] at this
                    exact this
                  have HB83 := Lib.hid (HB1.out.trans (HW3.out.mono HSZ1.out))
                  have hS0 : Hid (Below wc.heap.size wc wv1.drew) := HB1.out.drew
                  go_region_held3 (fun w' => Hid (Below wc.heap.size wc w'))
                    (first | assumption | exact bel_alloc (by assumption) | exact HX2.out | exact HX3.out)
                    (first
                      | ((refine step_appendV _ (by rfl) (.tmp 78) (.tmp 82) (by rfl) wc.heap.size (0 + co) 1 1 v1 ([] ++ (vs3.drop 0).take co) [.slice (some ⟨wv1.heap.size, 0, none⟩) 2 2] (some ⟨wv1.heap.size + 1, 0, none⟩) (by rfl) (by rfl) HRW.out (by rfl) (.inr ⟨wv1.heap.size + 1, 0, rfl, HCL.out⟩) (Own.one HP3.out) (by omega) HB83.out.size ?_); intro v2 wv2 hr2 hg2 hb2; have HR2 := Lib.hid hr2; have HP4 := Lib.hid (HP3.out.keptLL HRW.out hg2); have HX2 := Lib.hid (HB83.out.trans hb2); have hS2 : Hid (Below wc.heap.size wc wv2) := HX2; clear hr2 hg2 hb2)
                      | ((refine step_appendV _ (by rfl) (.tmp 83) (.tmp 86) (by rfl) wc.heap.size (0 + co + 1) 0 0 v2 ([] ++ (vs3.drop 0).take co ++ [.slice (some ⟨wv1.heap.size, 0, none⟩) 2 2]) ((vs3.drop co).take (O3.length - co)) (some ⟨g, 0, none⟩) (by rfl) (by rfl) HR2.out HL2.out (.inl ⟨by rw [HK2.out, Nat.sub_self, List.take_zero], fun h => by cases h⟩) (ones_part HOW.out co _) (by omega) HX2.out.size ?_); intro v3 wv3 hr3 hg3 hb3; have HR3 := Lib.hid hr3; have HP5 := Lib.hid (HP4.out.keptLL HR2.out hg3); have HX3 := Lib.hid (HX2.out.trans hb3); have hS3 : Hid (Below wc.heap.size wc wv3) := HX3; clear hr3 hg3 hb3))
                  all_goals
                    go_wp2
                    go_roundw
                    case rel => exact ⟨t + 1, _, O4, by omega, by go_num, by rw [HPU.out]; exact pairs_done HOW.out (Nat.le_trans hszw (Nat.le_trans hsz (Nat.le_trans hsz2 hsz3))) hql HP5.out (by have h := HR3.out; rwa [show 0 + co + 1 + 0 = 0 + co + 1 + (O3.length - co) by have := HK2.out; omega] at h) HX3.out, Below.step HBE3.out HX3.out, HN2.out.1, HN2.out.2, HFD3.out⟩
                    case measure => simp [intOf]; omega
                · have HL2 : Hid (O3.length - q = ((vs3.drop q).take (O3.length - q)).length) := by show _ = _; rw [List.length_take, List.length_drop, HLEN.out]; omega
                  have h2 := Lib.hid (fun w' hb => LL_hc HOW.out (w' := w') hb q (O3.length - q) (by omega) (co - q))
                  go_wp2_with (first
                    | (at_builtin; refine wp_appendV _ rfl (.tmp 73) (.tmp 76) rfl wc.heap.size 0 q co _ [] ((vs3.drop 0).take q) (some ⟨g, 0, none⟩) rfl rfl (LL_lit0 _ wc (Nat.le_refl _)) HL1.out h1.out (ones_part HOW.out 0 q) (by omega) (by simp) ?_; intro v1 wv1 hr1 hg1 hb1; have HR1 := Lib.hid hr1; have HB1 := Lib.hid ((Below.alloc1 wc (.cells #[] 24)).trans hb1); clear hr1 hg1 hb1)
                    | fail)
                  have HSZ1 := Lib.hid HB1.out.size
                  have HW2 := Lib.hid ((Below.refl wv1.heap.size wv1).drew.alloc (Nat.le_refl _) (.cells #[.int .i64 iv, .int .i64 jv] 3))
                  have HW3 := Lib.hid (HW2.out.alloc HW2.out.size (.cells #[.slice (some ⟨wv1.heap.size, 0, none⟩) 2 2] 24))
                  have HP1 : Hid (Own wc.heap.size ((wv1.drew).alloc (.cells #[.int .i64 iv, .int .i64 jv] 3)) (.slice (some ⟨wv1.heap.size, 0, none⟩) 2 2) [iv, jv]) := Own.lit2 wc.heap.size wv1.drew iv jv HSZ1.out
                  have HP3 := Lib.hid (HP1.out.below (Below.alloc1 _ (.cells #[.slice (some ⟨wv1.heap.size, 0, none⟩) 2 2] 24)))
                  have HRW := Lib.hid (ownsRow_below HR1.out HW3.out)
                  have HCL : Hid (∀ j u, ([.slice (some ⟨wv1.heap.size, 0, none⟩) 2 2] : List Value)[j]? = some u → (((wv1.drew).alloc (.cells #[.int .i64 iv, .int .i64 jv] 3)).alloc (.cells #[.slice (some ⟨wv1.heap.size, 0, none⟩) 2 2] 24)).cell? ⟨wv1.heap.size + 1, 0 + j, none⟩ = some u) := by
                    have := lit1_cells ((wv1.drew).alloc (.cells #[.int .i64 iv, .int .i64 jv] 3)) (.slice (some ⟨wv1.heap.size, 0, none⟩) 2 2) 24
                    rw [World.size_alloc] at this
                    exact this
                  have HB83 := Lib.hid (HB1.out.trans (HW3.out.mono HSZ1.out))
                  have hS0 : Hid (Below wc.heap.size wc wv1.drew) := HB1.out.drew
                  go_region_held3 (fun w' => Hid (Below wc.heap.size wc w'))
                    (first | assumption | exact bel_alloc (by assumption) | exact HX2.out | exact HX3.out)
                    (first
                      | ((refine step_appendV _ (by rfl) (.tmp 78) (.tmp 82) (by rfl) wc.heap.size (0 + q) 1 1 v1 ([] ++ (vs3.drop 0).take q) [.slice (some ⟨wv1.heap.size, 0, none⟩) 2 2] (some ⟨wv1.heap.size + 1, 0, none⟩) (by rfl) (by rfl) HRW.out (by rfl) (.inr ⟨wv1.heap.size + 1, 0, rfl, HCL.out⟩) (Own.one HP3.out) (by omega) HB83.out.size ?_); intro v2 wv2 hr2 hg2 hb2; have HR2 := Lib.hid hr2; have HP4 := Lib.hid (HP3.out.keptLL HRW.out hg2); have HX2 := Lib.hid (HB83.out.trans hb2); have hS2 : Hid (Below wc.heap.size wc wv2) := HX2; clear hr2 hg2 hb2)
                      | ((refine step_appendV _ (by rfl) (.tmp 83) (.tmp 86) (by rfl) wc.heap.size (0 + q + 1) (O3.length - q) (co - q) v2 ([] ++ (vs3.drop 0).take q ++ [.slice (some ⟨wv1.heap.size, 0, none⟩) 2 2]) ((vs3.drop q).take (O3.length - q)) (some ⟨g, q, none⟩) (by rfl) (by rfl) HR2.out HL2.out (h2.out _ HX2.out) (ones_part HOW.out q _) (by omega) HX2.out.size ?_); intro v3 wv3 hr3 hg3 hb3; have HR3 := Lib.hid hr3; have HP5 := Lib.hid (HP4.out.keptLL HR2.out hg3); have HX3 := Lib.hid (HX2.out.trans hb3); have hS3 : Hid (Below wc.heap.size wc wv3) := HX3; clear hr3 hg3 hb3))
                  all_goals
                    go_wp2
                    go_roundw
                    case rel => exact ⟨t + 1, _, O4, by omega, by go_num, by rw [HPU.out]; exact pairs_done HOW.out (Nat.le_trans hszw (Nat.le_trans hsz (Nat.le_trans hsz2 hsz3))) hql HP5.out HR3.out HX3.out, Below.step HBE3.out HX3.out, HN2.out.1, HN2.out.2, HFD3.out⟩
                    case measure => simp [intOf]; omega
            · obtain rfl : t = x := by omega
              have hfin := fold_end (by rw [List.length_take]; omega) HO3.out.2.2
              rw [hfin] at hown HO3
              have HOW := Lib.hid hown; have HBE3 := Lib.hid hbel
              clear hown hbel hfin
              go_wp2_with fail
              go_roundw
              case rel => exact ⟨t + 1, vs3, R3, by omega, by go_num, HOW.out, Below.step HBE2.out HBE3.out, HO3.out.1, by have := HO3.out.2.1; omega, HFD2.out⟩
              case measure => simp [intOf]; omega
        · obtain rfl : x = f.length := by omega
          have hfin := fold_end (by rw [List.length_range]; omega) HO2.out.2.2
          rw [hfin] at hown HO2
          have HOW := Lib.hid hown; have HBE2 := Lib.hid hbel
          clear hown hbel hfin
          go_wp2_with fail
          go_roundw
          case rel => exact ⟨k + 1, vs2, R2, by omega, by go_num, HOW.out, HUK.out.below HBE2.out, Below.step HBE.out HBE2.out, HO2.out.1, by have := HO2.out.2.1; omega, HFD.out.2⟩
          case measure => simp [intOf]; omega
    · obtain rfl : k = F.length := by omega
      have hfin := fold_end (by omega) HO.out.2.2
      rw [hfin] at hown
      obtain ⟨a5, c5, rfl, _⟩ := hown.form
      have HOW := Lib.hid hown; have HBE := Lib.hid hbel
      clear hown hbel hfin
      go_wp2_with fail
      go_ret
      exact ⟨_, vs, rfl, HOW.out, HBE.out⟩


end Go.Proofs.Ytogjclmmjdhfeac

section
namespace Go.Proofs.Ytogjclmmjdhfeac
open Go.RowKit
set_option linter.unusedSimpArgs false
set_option linter.unusedVariables false

def okE (l : List Int) (i j : Int) : Bool := decide (0 ≤ i ∧ i < j ∧ j < (l.length : Int)) && shareB l i j
def ok_ExchangeAt (l : List Int) (i j : Int) : Bool := goodB l && okE l i j
def res_ExchangeAt (l : List Int) (i j : Int) : List Int := if goodB l && okE l i j then exL l i j else []
theorem len_ExchangeAt (l : List Int) (i j : Int) : (res_ExchangeAt l i j).length ≤ 1000000 := by
  unfold res_ExchangeAt
  split
  · next h =>
    rw [Bool.and_eq_true] at h
    rw [exL_length]; have := good_len' h.1; omega
  · simp
theorem okE_mem {l : List Int} {i j : Int} : okE l i j = true ↔ [i, j] ∈ pairsL l := by
  unfold okE
  rw [pairs_mem, Bool.and_eq_true, decide_eq_true_eq]
  constructor
  · rintro ⟨⟨h0, h1, h2⟩, h3⟩
    obtain ⟨i, rfl⟩ := Int.eq_ofNat_of_zero_le h0
    obtain ⟨j, rfl⟩ := Int.eq_ofNat_of_zero_le (show 0 ≤ j by omega)
    exact ⟨i, j, by omega, by omega, h3, rfl⟩
  · rintro ⟨i', j', h1, h2, h3, h4⟩
    simp only [List.cons.injEq, and_true] at h4
    obtain ⟨rfl, rfl⟩ := h4
    exact ⟨⟨by omega, by omega, by omega⟩, h3⟩
theorem exL_nat (l : List Int) (i j a b : Nat) (ha : l.getD i 0 = (a : Int)) (hb : l.getD j 0 = (b : Int)) :
    exL l (i : Int) (j : Int) = if a < j then (((l.set i (b : Int)).set b (i : Int)).set a (j : Int)).set j (a : Int) else (((l.set i (j : Int)).set j (i : Int)).set b (a : Int)).set a (b : Int) := by
  unfold exL setJ
  simp only [Int.toNat_natCast, ha, hb]
  by_cases h : a < j
  · rw [if_pos h, if_pos (by omega)]
  · rw [if_neg h, if_neg (by omega)]

set_option maxHeartbeats 4000000 in
set_option maxRecDepth 100000 in
theorem exAt_any (l : List Int) (i j : Nat) (w : World) (u : Value) (h : Rd w u l) (hg : goodB l = true) (hij : i < j) (hj : j < l.length) :
    Calls Try.prog 58 #[u, .int .i64 (i : Int), .int .i64 (j : Int)] w (Made w (exL l (i : Int) (j : Int))) := by
  have hl := good_len' hg
  have f1 := (good_facts hg).2.2.1 i (by omega)
  have f2 := (good_facts hg).2.2.1 j hj
  obtain ⟨a, ha⟩ := Int.eq_ofNat_of_zero_le f1.1
  obtain ⟨b, hb⟩ := Int.eq_ofNat_of_zero_le f2.1
  have hal : a < l.length := by omega
  have hbl : b < l.length := by omega
  rw [exL_nat l i j a b ha hb]
  obtain ⟨RES, hRES⟩ : ∃ RES, (if a < j then (((l.set i (b : Int)).set b (i : Int)).set a (j : Int)).set j (a : Int) else (((l.set i (j : Int)).set j (i : Int)).set b (a : Int)).set a (b : Int)) = RES := ⟨_, rfl⟩
  rw [hRES]
  have HRES := Lib.hid hRES
  clear hRES
  have HO := Lib.hid (l1Own_any u l w h (by omega))
  obtain ⟨ga, off, c, rfl, hc1, hc2, hcell⟩ := h.at (by omega)
  have hsrc : ∀ wq, Below w.heap.size w wq → wq.cell? ⟨ga, off + i, none⟩ = some (.int .i64 (a : Int)) ∧ wq.cell? ⟨ga, off + j, none⟩ = some (.int .i64 (b : Int)) := by
    intro wq hq
    have c1 := hcell i (by omega)
    have c2 := hcell j hj
    rw [ha] at c1
    rw [hb] at c2
    exact ⟨(hq.cell (p := ⟨ga, off + i, none⟩) (World.block_lt_of_cell? w _ c1)).trans c1, (hq.cell (p := ⟨ga, off + j, none⟩) (World.block_lt_of_cell? w _ c2)).trans c2⟩
  obtain ⟨n, hn⟩ : ∃ n, n = l.length := ⟨_, rfl⟩
  rw [← hn] at hl hj hal hbl hc1 HO ⊢
  have HN := Lib.hid hn; have HS := Lib.hid hsrc
  unfold maxLen at hc2
  clear hn hcell hsrc f1 f2 ha hb hg h
  go_enter Try.func58, Try.ntmps58
  go_wp2_with (go_at_call 77; ((with_reducible refine HO.out.mono ?_); rintro e w1 ⟨v1, rfl, ho1, hb1⟩))
  obtain ⟨p1, cc, rfl, _, hcc⟩ := ho1.form
  obtain ⟨g, rfl, _⟩ := ho1.get 0 (by rw [← HN.out]; omega)
  have hsz : w.heap.size ≤ g := (ho1.lt g rfl).1
  have hgl := (ho1.lt g rfl).2
  have c1 := (HS.out w1.drew (Below.drew hb1)).1
  have c2 := (HS.out w1.drew (Below.drew hb1)).2
  rw [← HN.out] at ho1 ⊢
  have HO1 : Hid (Own w.heap.size w1.drew (.slice (some ⟨g, 0, none⟩) n cc) l) := Lib.hid ho1
  have HB1 := Lib.hid (Below.drew hb1)
  unfold maxLen at hcc
  clear hb1 ho1
  go_region
  clear c1 c2
  have HB1' := HB1
  generalize w1.drew = w1d at *
  by_cases hq : a < j
  · have hE := HRES.out
    rw [if_pos hq] at hE
    have HE := Lib.hid hE
    clear hE HRES
    go_wp2_with (first
      | ((with_reducible refine wp_storeOwn rfl (.tmp 26) (.tmp 25) rfl w.heap.size g i n cc l (b : Int) rfl rfl HO1.out (by rw [← HN.out]; omega) ?_); intro w2 ho2 hg2; have HO2 := Lib.hid ho2; have HB2 := Lib.hid (HB1.out.grown hg2 HB1.out.size (by intro k hk; simp at hk; omega)); clear ho2 hg2)
      | ((with_reducible refine wp_storeOwn rfl (.tmp 30) (.tmp 29) rfl w.heap.size g b n cc _ (i : Int) rfl rfl HO2.out (by simp only [List.length_set]; rw [← HN.out]; omega) ?_); intro w3 ho3 hg3; have HO3 := Lib.hid ho3; have HB3 := Lib.hid (HB2.out.grown hg3 HB2.out.size (by intro k hk; simp at hk; omega)); clear ho3 hg3)
      | ((with_reducible refine wp_storeOwn rfl (.tmp 34) (.tmp 33) rfl w.heap.size g a n cc _ (j : Int) rfl rfl HO3.out (by simp only [List.length_set]; rw [← HN.out]; omega) ?_); intro w4 ho4 hg4; have HO4 := Lib.hid ho4; have HB4 := Lib.hid (HB3.out.grown hg4 HB3.out.size (by intro k hk; simp at hk; omega)); clear ho4 hg4)
      | ((with_reducible refine wp_storeOwn rfl (.tmp 38) (.tmp 37) rfl w.heap.size g j n cc _ (a : Int) rfl rfl HO4.out (by simp only [List.length_set]; rw [← HN.out]; omega) ?_); intro w5 ho5 hg5; have HO5 := Lib.hid ho5; have HB5 := Lib.hid (HB4.out.grown hg5 HB4.out.size (by intro k hk; simp at hk; omega)); clear ho5 hg5))
    go_ret
    exact ⟨_, rfl, by rw [← HE.out]; exact HO5.out, HB5.out⟩
  · have hE := HRES.out
    rw [if_neg hq] at hE
    have HE := Lib.hid hE
    clear hE HRES
    go_wp2_with (first
      | ((with_reducible refine wp_storeOwn rfl (.tmp 42) (.tmp 41) rfl w.heap.size g i n cc l (j : Int) rfl rfl HO1.out (by rw [← HN.out]; omega) ?_); intro w2 ho2 hg2; have HO2 := Lib.hid ho2; have HB2 := Lib.hid (HB1.out.grown hg2 HB1.out.size (by intro k hk; simp at hk; omega)); clear ho2 hg2)
      | ((with_reducible refine wp_storeOwn rfl (.tmp 46) (.tmp 45) rfl w.heap.size g j n cc _ (i : Int) rfl rfl HO2.out (by simp only [List.length_set]; rw [← HN.out]; omega) ?_); intro w3 ho3 hg3; have HO3 := Lib.hid ho3; have HB3 := Lib.hid (HB2.out.grown hg3 HB2.out.size (by intro k hk; simp at hk; omega)); clear ho3 hg3)
      | ((with_reducible refine wp_storeOwn rfl (.tmp 50) (.tmp 49) rfl w.heap.size g b n cc _ (a : Int) rfl rfl HO3.out (by simp only [List.length_set]; rw [← HN.out]; omega) ?_); intro w4 ho4 hg4; have HO4 := Lib.hid ho4; have HB4 := Lib.hid (HB3.out.grown hg4 HB3.out.size (by intro k hk; simp at hk; omega)); clear ho4 hg4)
      | ((with_reducible refine wp_storeOwn rfl (.tmp 54) (.tmp 53) rfl w.heap.size g a n cc _ (b : Int) rfl rfl HO4.out (by simp only [List.length_set]; rw [← HN.out]; omega) ?_); intro w5 ho5 hg5; have HO5 := Lib.hid ho5; have HB5 := Lib.hid (HB4.out.grown hg5 HB4.out.size (by intro k hk; simp at hk; omega)); clear ho5 hg5))
    go_ret
    exact ⟨_, rfl, by rw [← HE.out]; exact HO5.out, HB5.out⟩

set_option maxHeartbeats 4000000 in
set_option maxRecDepth 100000 in
theorem spec_EA_yes (l : List Int) (i j : Int) (w : World) (u : Value) (h : Rd w u l) (m : l.length ≤ 1048576) (hg : goodB l = true) :
    Calls Try.prog 23 #[u, .int .i64 i, .int .i64 j] w (Gives w (if okE l i j then exL l i j else []) (okE l i j)) := by
  have hgood := ahGood_any u l w h m
  rw [hg] at hgood
  have HA := Lib.hid hgood
  have HP := Lib.hid (fun w h => exPairs_any l w u h hg)
  have HE : Hid (∀ w, Rd w u l → okE l i j = true → Calls Try.prog 58 #[u, .int .i64 i, .int .i64 j] w (Made w (exL l i j))) := by
    intro w hr he
    unfold okE at he
    rw [Bool.and_eq_true, decide_eq_true_eq] at he
    obtain ⟨⟨h0, h1, h2⟩, h3⟩ := he
    obtain ⟨i, rfl⟩ := Int.eq_ofNat_of_zero_le h0
    obtain ⟨j, rfl⟩ := Int.eq_ofNat_of_zero_le (show 0 ≤ j by omega)
    exact exAt_any l i j w u hr hg (by omega) (by omega)
  have HM : Hid (okE l i j = true ↔ [i, j] ∈ pairsL l) := okE_mem
  have HT : Hid (∀ r ∈ pairsL l, r.length = 2) := fun r hr => by obtain ⟨i, j, _, _, _, rfl⟩ := pairs_mem.1 hr; rfl
  have hle := (ex_facts hg).2.2.2
  generalize exL l i j = E at *
  generalize okE l i j = K at *
  generalize pairsL l = P at *
  obtain ⟨RES, hRES⟩ : ∃ RES, (if K = true then E else []) = RES := ⟨_, rfl⟩
  rw [hRES]
  have HRES := Lib.hid hRES
  clear hRES
  have H0 := Lib.hid h
  obtain ⟨a0, c0, rfl, _⟩ := h
  clear hgood hg m
  go_enter Try.func23, Try.ntmps23
  go_wp2_with (first
    | (go_at_call 46; ((with_reducible refine HA.out.mono ?_); rintro e w0 ⟨rfl, hb0⟩; have HB0 := Lib.hid hb0; have H1 := Lib.hid (H0.out.below hb0); clear hb0))
    | (go_at_call 54; ((refine (HP.out _ H1.out).mono ?_); rintro e w1 ⟨vf, us, rfl, hU, hb1⟩; obtain ⟨au, cu, rfl, hcu1, hcu2⟩ := hU.form; unfold maxLen at hcu2; have HU := Lib.hid hU; have HB1 := Lib.hid (Below.step HB0.out hb1); clear hU hb1)))
  go_loopw [16] (fun i' wr => ∃ k : Nat, k ≤ P.length ∧ i' = .int .i64 (k : Int) ∧ wr = w1 ∧ Hid (∀ q, q < k → P.getD q [] ≠ [i, j])) (fun i _ => P.length - (intOf i).toNat)
  case atStart => exact ⟨0, by omega, rfl, rfl, fun q hq => absurd hq (Nat.not_lt_zero _)⟩
  case round =>
    obtain ⟨k, hk, rfl, rfl, HF⟩ := hrel
    by_cases hlt : k < P.length
    · obtain ⟨gu, rfl, _, _, hcell, _⟩ := HU.out.at (by omega)
      have hck := hcell k hlt
      have hru := HU.out.own k hlt
      have hmem : P.getD k [] ∈ P := by simp [List.getD, hlt]
      have h2l := HT.out _ hmem
      have hstep : P.getD k [] ≠ [i, j] → Hid (∀ q, q < k + 1 → P.getD q [] ≠ [i, j]) := fun h q hq => by
        rcases Nat.lt_or_ge q k with h1 | h1
        · exact HF.out q h1
        · rw [show q = k by omega]; exact h
      generalize P.getD k [] = r at *
      generalize rowV us k = pr at *
      obtain ⟨ap, cp, rfl, hcp1, hcp2⟩ := hru.form
      rw [h2l] at hcp1 hck
      unfold maxLen at hcp2
      obtain ⟨gp, rfl, k0⟩ := hru.get 0 (by omega)
      obtain ⟨gp', e', k1⟩ := hru.get 1 (by omega)
      simp only [Option.some.injEq, Addr.mk.injEq, and_true] at e'
      subst e'
      obtain ⟨r0, r1, rfl⟩ : ∃ r0 r1, r = [r0, r1] := by
        match r, h2l with
        | [x, y], _ => exact ⟨x, y, rfl⟩
      simp only [List.getD_cons_zero, List.getD_cons_succ] at k0 k1
      clear hcell hru h2l
      by_cases c1 : r0 = i
      · by_cases c2 : r1 = j
        · subst c1; subst c2
          have hK : K = true := HM.out.2 hmem
          subst hK
          have HQ := Lib.hid (HE.out wr (H0.out.below HB1.out) rfl)
          have HE2 : Hid (E = RES) := HRES.out
          clear hstep hmem
          go_wp2_with (go_at_call 58; ((with_reducible refine HQ.out.mono ?_); rintro e w2 ⟨v2, rfl, ho2, hb2⟩; have HO2 := Lib.hid ho2; have HB2 := Lib.hid (Below.step HB1.out hb2); obtain ⟨x1, x2, x3, rfl⟩ := ho2.form'; clear ho2 hb2))
          go_ret2
          exact ⟨_, rfl, by rw [← HE2.out]; exact HO2.out.mono HB1.out.size, HB2.out⟩
        · subst c1
          have hb : (r1 == j) = false := by simp [c2]
          have HN := hstep (fun e => by simp at e; exact c2 e)
          clear hstep
          go_wp2
          go_roundw
          case rel => exact ⟨k + 1, by omega, by go_num, by trivial, HN.out⟩
          case measure => simp [intOf]; omega
      · have hb : (r0 == i) = false := by simp [c1]
        have HN := hstep (fun e => by simp at e; exact c1 e.1)
        clear hstep
        go_wp2
        go_roundw
        case rel => exact ⟨k + 1, by omega, by go_num, by trivial, HN.out⟩
        case measure => simp [intOf]; omega
    · obtain rfl : k = P.length := by omega
      have hK : K = false := by
        cases K with
        | false => rfl
        | true =>
          exfalso
          obtain ⟨q, hq, e⟩ := List.mem_iff_getElem.1 (HM.out.1 rfl)
          exact HF.out q hq (by simp [List.getD, hq, e])
      subst hK
      have HE2 : Hid ([] = RES) := HRES.out
      go_wp2
      go_ret2
      exact ⟨_, rfl, by rw [← HE2.out]; exact Own.nil _ _, HB1.out⟩
theorem spec_ExchangeAt (l : List Int) (i j : Int) (w : World) (u : Value) (h : Rd w u l) (m : l.length ≤ 1048576) :
    Calls Try.prog 23 #[u, .int .i64 i, .int .i64 j] w (Gives w (res_ExchangeAt l i j) (ok_ExchangeAt l i j)) := by
  unfold res_ExchangeAt ok_ExchangeAt
  cases hg : goodB l with
  | true =>
    simp only [Bool.true_and]
    exact spec_EA_yes l i j w u h m hg
  | false =>
    have hgood := ahGood_any u l w h m
    rw [hg] at hgood
    have HA := Lib.hid hgood
    obtain ⟨a0, c0, rfl, _⟩ := h
    clear hgood hg m
    simp only [Bool.false_and, Bool.false_eq_true, if_false]
    go_enter Try.func23, Try.ntmps23
    go_wp2_with (go_at_call 46; ((with_reducible refine HA.out.mono ?_); rintro e w0 ⟨rfl, hb0⟩; have HB0 := Lib.hid hb0; clear hb0))
    go_ret2
    exact ⟨_, rfl, Own.nil _ _, HB0.out⟩

set_option maxHeartbeats 4000000 in
set_option maxRecDepth 100000 in
theorem impl_ExchangeAt (l : List Int) (i j : Int) (w : World) (u : Value) (h : Rd w u l) (m : l.length ≤ 1048576) :
    Calls Try.prog 22 #[u, .int .i64 i, .int .i64 j] w (Gives w (res_ExchangeAt l i j) (ok_ExchangeAt l i j)) := by
  unfold res_ExchangeAt ok_ExchangeAt
  cases hg : goodB l with
  | false =>
    simp only [Bool.false_and, Bool.false_eq_true, if_false]
    have HR := Lib.hid (readSystem_no u l w h hg)
    obtain ⟨a0, c0, rfl, _⟩ := h
    clear hg m
    go_enter Try.func22, Try.ntmps22
    go_wp2_with fail
    refine HR.out.mono ?_
    rintro e w1 ⟨rfl, hb⟩
    have HB1 := Lib.hid hb; clear hb
    go_wp2_with ((with_reducible refine wp_storeNew rfl (.tmp 8) (.tmp 14) rfl _ [] (Nat.zero_le _) rfl rfl ?_); intro w2 hs2 hb2; have HB2 := Lib.hid (Below.step HB1.out hb2); clear hs2 hb2)
    go_ret2
    exact ⟨_, rfl, Own.nil _ _, HB2.out⟩
  | true =>
    simp only [Bool.true_and]
    have hl := good_len' hg
    have HR := Lib.hid (readSystem_yes u l w h hg)
    have HG := Lib.hid hg; have HL := Lib.hid hl
    obtain ⟨a0, c0, rfl, _⟩ := h
    have HSZ : Hid (∀ W b, SysIn W b l → W.cell? ⟨b, 12, none⟩ = some (.int .i64 (l.length : Int))) := fun W b hs => hs.size hl
    unfold okE
    have HN0 : Hid (∀ b : Bool, (if (false && b) = true then exL l i j else []) = []) := fun b => rfl
    by_cases c1 : i < 0
    · have e : decide (0 ≤ i ∧ i < j ∧ j < (l.length : Int)) = false := decide_eq_false (by omega)
      rw [e]
      simp only [Bool.false_and, Bool.false_eq_true, if_false]
      clear e hg m
      go_enter Try.func22, Try.ntmps22
      go_wp2_with fail
      refine HR.out.mono ?_
      rintro e w1 ⟨rfl, hb⟩
      have HB1 := Lib.hid hb; clear hb
      go_wp2_with ((with_reducible refine wp_storeNew rfl (.tmp 8) (.tmp 14) rfl _ l HL.out rfl rfl ?_); intro w2 hs2 hb2; have HB2 := Lib.hid (Below.step HB1.out hb2); clear hs2 hb2)
      go_ret2
      exact ⟨_, rfl, Own.nil _ _, HB2.out⟩
    · by_cases c2 : j ≤ i
      · have e : decide (0 ≤ i ∧ i < j ∧ j < (l.length : Int)) = false := decide_eq_false (by omega)
        rw [e]
        simp only [Bool.false_and, Bool.false_eq_true, if_false]
        clear e hg m
        go_enter Try.func22, Try.ntmps22
        go_wp2_with fail
        refine HR.out.mono ?_
        rintro e w1 ⟨rfl, hb⟩
        have HB1 := Lib.hid hb; clear hb
        go_wp2_with ((with_reducible refine wp_storeNew rfl (.tmp 8) (.tmp 14) rfl _ l HL.out rfl rfl ?_); intro w2 hs2 hb2; have HB2 := Lib.hid (Below.step HB1.out hb2); clear hs2 hb2)
        go_ret2
        exact ⟨_, rfl, Own.nil _ _, HB2.out⟩
      · by_cases c3 : (l.length : Int) ≤ j
        · have e : decide (0 ≤ i ∧ i < j ∧ j < (l.length : Int)) = false := decide_eq_false (by omega)
          rw [e]
          simp only [Bool.false_and, Bool.false_eq_true, if_false]
          clear e hg m
          go_enter Try.func22, Try.ntmps22
          go_wp2_with fail
          refine HR.out.mono ?_
          rintro e w1 ⟨rfl, hb⟩
          have HB1 := Lib.hid hb; clear hb
          go_wp2_with ((with_reducible refine wp_storeNew rfl (.tmp 8) (.tmp 14) rfl _ l HL.out rfl rfl ?_); intro w2 hs2 hb2; have HB2 := Lib.hid (Below.step HB1.out hb2); have k12 := HSZ.out _ _ hs2; clear hs2 hb2)
          go_ret2
          exact ⟨_, rfl, Own.nil _ _, HB2.out⟩
        · have e : decide (0 ≤ i ∧ i < j ∧ j < (l.length : Int)) = true := decide_eq_true (by omega)
          rw [e]
          simp only [Bool.true_and]
          obtain ⟨i, rfl⟩ := Int.eq_ofNat_of_zero_le (show 0 ≤ i by omega)
          obtain ⟨j, rfl⟩ := Int.eq_ofNat_of_zero_le (show 0 ≤ j by omega)
          have HX := Lib.hid (fun w => exchanged_any l i j w hg (by omega) (by omega))
          have hEl := exL_length l (i : Int) (j : Int)
          have HEL : Hid ((exL l (i : Int) (j : Int)).length ≤ 12) := by show _ ≤ 12; omega
          have HLI := Lib.hid (fun w => list_any (exL l (i : Int) (j : Int)) w HEL.out)
          generalize exL l (i : Int) (j : Int) = E at *
          generalize hK : shareB l (i : Int) (j : Int) = K at *
          clear e hg m hK hEl HN0
          cases K with
          | true =>
            simp only [if_true] at HX ⊢
            go_enter Try.func22, Try.ntmps22
            go_wp2_with fail
            refine HR.out.mono ?_
            rintro e w1 ⟨rfl, hb⟩
            have HB1 := Lib.hid hb; clear hb
            go_wp2_with (first
              | ((with_reducible refine wp_storeNew rfl (.tmp 8) (.tmp 14) rfl _ l HL.out rfl rfl ?_); intro w2 hs2 hb2; have HB2 := Lib.hid (Below.step HB1.out hb2); have HS2 := Lib.hid hs2; have k12 := HSZ.out _ _ hs2; clear hs2 hb2)
              | (with_reducible refine wp_loadSys rfl (.tmp 8) rfl w1.heap.size l HL.out rfl HS2.out ?_)
              | (go_at_call 57; ((with_reducible refine (HX.out _).mono ?_); rintro e w3 ⟨rfl, hb3⟩; have HB3 := Lib.hid (Below.step HB2.out hb3); clear hb3))
              | ((with_reducible refine wp_storeNew rfl (.tmp 10) (.tmp 38) rfl _ E HEL.out rfl rfl ?_); intro w4 hs4 hb4; have HB4 := Lib.hid (Below.step HB3.out hb4); have HS4 := Lib.hid hs4; clear hs4 hb4)
              | (with_reducible refine wp_loadSys rfl (.tmp 10) rfl w3.heap.size E HEL.out rfl HS4.out ?_)
              | (go_at_call 52; ((with_reducible refine (HLI.out _).mono ?_); rintro e w5 ⟨v5, rfl, ho5, hb5⟩; have HO5 := Lib.hid ho5; have HB5 := Lib.hid (Below.step HB4.out hb5); obtain ⟨x1, x2, x3, rfl⟩ := ho5.form'; clear ho5 hb5)))
            go_ret2
            exact ⟨_, rfl, HO5.out.mono HB4.out.size, HB5.out⟩
          | false =>
            simp only [Bool.false_eq_true, if_false] at HX ⊢
            go_enter Try.func22, Try.ntmps22
            go_wp2_with fail
            refine HR.out.mono ?_
            rintro e w1 ⟨rfl, hb⟩
            have HB1 := Lib.hid hb; clear hb
            go_wp2_with (first
              | ((with_reducible refine wp_storeNew rfl (.tmp 8) (.tmp 14) rfl _ l HL.out rfl rfl ?_); intro w2 hs2 hb2; have HB2 := Lib.hid (Below.step HB1.out hb2); have HS2 := Lib.hid hs2; have k12 := HSZ.out _ _ hs2; clear hs2 hb2)
              | (with_reducible refine wp_loadSys rfl (.tmp 8) rfl w1.heap.size l HL.out rfl HS2.out ?_)
              | (go_at_call 57; ((with_reducible refine (HX.out _).mono ?_); rintro e w3 ⟨rfl, hb3⟩; have HB3 := Lib.hid (Below.step HB2.out hb3); clear hb3))
              | ((with_reducible refine wp_storeNew rfl (.tmp 10) (.tmp 38) rfl _ [] (Nat.zero_le _) rfl rfl ?_); intro w4 hs4 hb4; have HB4 := Lib.hid (Below.step HB3.out hb4); have HS4 := Lib.hid hs4; clear hs4 hb4))
            go_ret2
            exact ⟨_, rfl, Own.nil _ _, HB4.out⟩

/-! ### CountExchanges -/
def ok_CountExchanges (l : List Int) : Bool := goodB l
def res_CountExchanges (l : List Int) : Int := if goodB l then ((pairsL l).length : Int) else 0


def chs (m : Nat) : Nat → Nat
  | 0 => 1
  | 1 => m
  | _ => m * (m - 1) / 2
set_option maxHeartbeats 4000000 in
theorem choices2_any (m : Nat) (hm : m ≤ 12) (w : World) :
    Calls Try.prog 66 #[.int .i64 (m : Int), .int .i64 2] w fun e w' => e = .returned (.int .i64 ((m * (m - 1) / 2 : Nat) : Int)) ∧ w = w' := by
  have : m = 0 ∨ m = 1 ∨ m = 2 ∨ m = 3 ∨ m = 4 ∨ m = 5 ∨ m = 6 ∨ m = 7 ∨ m = 8 ∨ m = 9 ∨ m = 10 ∨ m = 11 ∨ m = 12 := by omega
  clear hm
  rcases this with rfl | rfl | rfl | rfl | rfl | rfl | rfl | rfl | rfl | rfl | rfl | rfl | rfl
  all_goals
    go_enter Try.func66, Try.ntmps66
    go_wp2
    refine wp_loop_rounds 3 ?_
    rw [rounds_succ]
    go_wp2
    rw [rounds_succ]
    go_wp2
    rw [rounds_succ]
    go_wp2
    go_ret
    first | exact ⟨rfl, rfl⟩ | exact ⟨rfl, trivial⟩ | simp
set_option maxHeartbeats 2000000 in
theorem impl_CE_yes (l : List Int) (w : World) (u : Value) (h : Rd w u l) (hg : goodB l = true) :
    Calls Try.prog 27 #[u] w (GivesN w ((pairsL l).length : Int) true) := by
  have hl := good_len' hg
  have HR := Lib.hid (readSystem_yes u l w h hg)
  have HF := Lib.hid (fun w => faceLists_any l w hl)
  obtain ⟨hf13, hf12⟩ := faceW_small hg
  have HQ : Hid ((faceW l).foldl (fun (c : Nat) (f : List Int) => c + f.length * (f.length - 1) / 2) 0 = (pairsL l).length) := (ex_facts hg).2.2.1
  have HL := Lib.hid hl
  obtain ⟨a0, c0, rfl, _⟩ := h
  generalize (pairsL l).length = R at *
  generalize faceW l = F at *
  have HF12 := Lib.hid hf12
  clear hg hl hf12
  go_enter Try.func27, Try.ntmps27
  go_wp2_with fail
  refine HR.out.mono ?_
  rintro e w1 ⟨rfl, hb⟩
  have HB1 := Lib.hid hb; clear hb
  go_wp2_with (first
    | ((with_reducible refine wp_storeNew rfl (.tmp 4) (.tmp 12) rfl _ l HL.out rfl rfl ?_); intro w2 hs2 hb2; have HB2 := Lib.hid (Below.step HB1.out hb2); have HS2 := Lib.hid hs2; clear hs2 hb2)
    | (with_reducible refine wp_loadSys rfl (.tmp 4) rfl w1.heap.size l HL.out rfl HS2.out ?_)
    | (go_at_call 65; ((with_reducible refine (HF.out _).mono ?_); rintro e w3 ⟨vf, us, rfl, hU, hb3⟩; obtain ⟨au, cu, rfl, hcu1, hcu2⟩ := hU.form; unfold maxLen at hcu2; have HU := Lib.hid hU; have HB3 := Lib.hid (Below.step HB2.out hb3); clear hU hb3)))
  go_loopw [6, 19] (fun s i wr => ∃ k c : Nat, k ≤ F.length ∧ i = .int .i64 (k : Int) ∧ s = .int .i64 (c : Int) ∧ c ≤ 66 * k ∧ wr = w3 ∧ Hid ((F.drop k).foldl (fun (c : Nat) (f : List Int) => c + f.length * (f.length - 1) / 2) c = R)) (fun _ i _ => F.length - (intOf i).toNat)
  case atStart => exact ⟨0, 0, by omega, rfl, rfl, by omega, rfl, HQ.out⟩
  case round =>
    obtain ⟨k, c, hk, rfl, rfl, hc, rfl, HF1⟩ := hrel
    by_cases hlt : k < F.length
    · obtain ⟨gu, rfl, _, _, hcell, _⟩ := HU.out.at (by omega)
      have hck := hcell k hlt
      have hru := HU.out.own k hlt
      have hfd := fold_drop [] hlt HF1.out
      have hfl := HF12.out k
      generalize F.getD k [] = f at *
      generalize rowV us k = pr at *
      obtain ⟨ap, cp, rfl, hcp1, hcp2⟩ := hru.form
      unfold maxLen at hcp2
      have HCH := Lib.hid (fun w => choices2_any f.length hfl w)
      have hle : f.length * (f.length - 1) / 2 ≤ 66 := by
        have : f.length * (f.length - 1) ≤ 12 * 11 := Nat.mul_le_mul hfl (by omega)
        omega
      generalize f.length * (f.length - 1) / 2 = y at *
      have HFD := Lib.hid hfd
      have hw : IntKind.i64.wrap ((c : Int) + (y : Int)) = (c : Int) + (y : Int) := IntWalk.i64_in _ (by omega)
      clear hcell hru hfd
      go_wp2_with (go_at_call 66; ((with_reducible refine (HCH.out _).mono ?_); rintro e w' ⟨rfl, rfl⟩))
      go_roundw
      case rel => exact ⟨k + 1, c + y, by omega, by go_num, by go_num, by omega, by trivial, HFD.out⟩
      case measure => simp [intOf]; omega
    · obtain rfl : k = F.length := by omega
      have hfin := fold_end (by omega) HF1.out
      subst hfin
      go_wp2
      go_ret2
      exact ⟨rfl, HB3.out⟩
set_option maxHeartbeats 1000000 in
theorem impl_CountExchanges (l : List Int) (w : World) (u : Value) (h : Rd w u l) (m : l.length ≤ 1048576) :
    Calls Try.prog 27 #[u] w (GivesN w (res_CountExchanges l) (ok_CountExchanges l)) := by
  unfold res_CountExchanges ok_CountExchanges
  cases hg : goodB l with
  | true => exact impl_CE_yes l w u h hg
  | false =>
    simp only [Bool.false_eq_true, if_false]
    have HR := Lib.hid (readSystem_no u l w h hg)
    obtain ⟨a0, c0, rfl, _⟩ := h
    clear hg m
    go_enter Try.func27, Try.ntmps27
    go_wp2_with fail
    refine HR.out.mono ?_
    rintro e w1 ⟨rfl, hb⟩
    have HB1 := Lib.hid hb; clear hb
    go_wp2_with ((with_reducible refine wp_storeNew rfl (.tmp 4) (.tmp 12) rfl _ [] (Nat.zero_le _) rfl rfl ?_); intro w2 hs2 hb2; have HB2 := Lib.hid (Below.step HB1.out hb2); clear hs2 hb2)
    go_ret2
    exact ⟨rfl, HB2.out⟩

end Go.Proofs.Ytogjclmmjdhfeac
end
