/- made at pairs: a table of numbers out of a table of pairs, by each maker. -/
import Derived.Test.YtgaaddfipkdlaabTabP
import Derived.Test.YtgaaddfipkdlaabListsLaw
namespace Go.Proofs.Ytgaaddfipkdlaab
open Go.RowKit
set_option linter.unusedSimpArgs false
set_option linter.unusedVariables false

def pAt (Q : List (List Int × List Int)) (c : Nat) : List Int × List Int := Q.getD c ([], [])
def rowM (F : List Int → List Int → Int) (Q : List (List Int × List Int)) : List Int := Q.map (fun p => F p.1 p.2)
def fillM (F : List Int → List Int → Int) (Q : List (List Int × List Int)) (c : Nat) : List Int := (Q.take c).map (fun p => F p.1 p.2) ++ List.replicate (Q.length - c) 0
def baseM (F : List Int → List Int → Int) (R : List (List (List Int × List Int))) (k : Nat) : List (List Int) := (R.take k).map (rowM F) ++ List.replicate (R.length - k) []
theorem fillM_len (F : List Int → List Int → Int) (Q : List (List Int × List Int)) (c : Nat) (h : c ≤ Q.length) : (fillM F Q c).length = Q.length := by simp [fillM]; omega
theorem fillM_zero (F : List Int → List Int → Int) (Q : List (List Int × List Int)) : fillM F Q 0 = List.replicate Q.length 0 := by simp [fillM]
theorem fillM_all (F : List Int → List Int → Int) (Q : List (List Int × List Int)) : fillM F Q Q.length = rowM F Q := by simp [fillM, rowM]
theorem fillM_set (F : List Int → List Int → Int) (Q : List (List Int × List Int)) (c : Nat) (h : c < Q.length) : (fillM F Q c).set c (F (pAt Q c).1 (pAt Q c).2) = fillM F Q (c + 1) := by
  unfold fillM
  rw [List.set_append_right _ _ (by rw [List.length_map, List.length_take]; omega), List.length_map, List.length_take, Nat.min_eq_left (by omega), Nat.sub_self, show Q.length - c = (Q.length - (c + 1)) + 1 by omega, List.replicate_succ, List.set_cons_zero, List.take_add_one, List.map_append, List.append_assoc]
  simp [pAt, List.getD, h]
theorem baseM_len (F : List Int → List Int → Int) (R : List (List (List Int × List Int))) (k : Nat) (h : k ≤ R.length) : (baseM F R k).length = R.length := by simp [baseM]; omega
theorem baseM_zero (F : List Int → List Int → Int) (R : List (List (List Int × List Int))) : baseM F R 0 = List.replicate R.length [] := by simp [baseM]
theorem baseM_all (F : List Int → List Int → Int) (R : List (List (List Int × List Int))) : baseM F R R.length = R.map (rowM F) := by simp [baseM]
theorem baseM_set (F : List Int → List Int → Int) (R : List (List (List Int × List Int))) (k : Nat) (h : k < R.length) : (baseM F R k).set k (rowM F (R.getD k [])) = baseM F R (k + 1) := by
  unfold baseM
  rw [List.set_append_right _ _ (by rw [List.length_map, List.length_take]; omega), List.length_map, List.length_take, Nat.min_eq_left (by omega), Nat.sub_self, show R.length - k = (R.length - (k + 1)) + 1 by omega, List.replicate_succ, List.set_cons_zero, List.take_add_one, List.map_append, List.append_assoc]
  simp [List.getD, h]

theorem rowRangeM {w : World} {g : Nat} {C : Array Value} {T : TypeId} {fr : Nat × Nat} (h : w.heap[g]? = some (.cells C T fr)) : w.rangeAt g 0 C.toList := by
  intro j v hj
  rw [Nat.zero_add, cell_of_row w g j _ _ _ h]
  simpa using hj
def loadPm (v : Value) : Sem Value := Instr.loadAt 52 v
theorem loadPm_eq (v : Value) : Instr.loadAt 52 v = loadPm v := rfl
theorem run_loadPm (w : World) (g : Nat) (t b : List Int) (h : PairIn w g t b) :
    (loadPm (.pointer (some ⟨g, 0, none⟩))).run Try.prog w = .ok (.agg (pairC t b)) w :=
  run_loadAt_mid w g 0 52 (pairC t b).toList _ (rowRangeM h) Try.underlying52 rfl (by rw [pair_info]; rfl)
attribute [local go_sem ↓] loadPm_eq

theorem OwnPP.at {lo hi n c : Nat} {a : Option Addr} {w : World} {vs : List Value} {ls : List (List (List Int × List Int))} (h : OwnPP lo hi w (.slice a n c) vs ls) (hl : 0 < ls.length) :
    ∃ g, a = some ⟨g, 0, none⟩ ∧ (∀ i, i < ls.length → w.cell? ⟨g, i, none⟩ = some (rowV vs i)) := by
  have h1 := h.row
  rcases h1.2 with ⟨hv, h0⟩ | ⟨g, cap, cur, hv, hB, hg, hnc, hcm, _⟩
  · omega
  · have hn : n = ls.length := by simp at hv; exact hv.2.1
    have ha : a = some ⟨g, 0, none⟩ := by simp at hv; exact hv.1
    have hc : c = cap := by simp at hv; exact hv.2.2
    subst ha; subst hc; subst hn
    refine ⟨g, rfl, fun i hi => ?_⟩
    have := World.ownsRow.cellAt h1 i (by omega)
    rw [this]
    have hl : i < vs.length := by rw [h.len]; exact hi
    simp [rowV, List.getD, hl]

/-- a number put into a row -/
theorem OwnLL.put {lo hi i g1 m cc : Nat} {w : World} {v : Value} {vs : List Value} {ls : List (List Int)} {l : List Int} (h : OwnLL lo hi w v vs (ls.set i l)) (hi' : i < ls.length) (hv : rowV vs i = .slice (some ⟨g1, 0, none⟩) m cc) (j : Nat) (z : Int) :
    OwnLL lo hi (w.setCell ⟨g1, j, none⟩ (.int .i64 z)) v vs (ls.set i (l.set j z)) := by
  have ho := h.own i (by rw [List.length_set]; exact hi')
  rw [hv, getD_setL_eq hi'] at ho
  have hn := ho.stored j z
  have hg : w.grownBy (w.setCell ⟨g1, j, none⟩ (.int .i64 z)) (rowV vs i).ownBlock := by
    rw [hv]
    exact ⟨rfl, rfl, rfl, by simp, fun k _ hk => heap_setCell_other w ⟨g1, j, none⟩ k _ (fun e => hk (by simp [Value.ownBlock, e]))⟩
  have := OwnLL.marked h (by rw [List.length_set]; exact hi') hg (by rw [hv]; exact hn)
  rwa [List.set_set] at this
theorem wp_makeSq {ops : Array Oper} {rest : List Oper} {o : Oper} {a : Act} {Q : Exit → Act → World → Prop} (w : World)
    (hg : o.guard = none) (l c : Operand) (hop : o.op = Op.makeSlice 44 l c) (n : Nat) (L C : Int) (hl : a.eval l = .int .i64 L) (hc : a.eval c = .int .i64 C) (hL : L = n) (hC : C = n) (hn : n ≤ 1000000000)
    (hK : ∀ w', OwnLL w.heap.size w'.heap.size w' (.slice (some ⟨w.heap.size, 0, none⟩) n n) (List.replicate n (.slice none 0 0)) (List.replicate n []) → Below w.heap.size w w' → w.heap.size < w'.heap.size → wpList Try.prog ops Q rest (a.put o.dst (.slice (some ⟨w.heap.size, 0, none⟩) n n)) w') :
    wpList Try.prog ops Q (o :: rest) a w := by
  obtain ⟨i0, hi, hz0, hz1, hz2⟩ := info_parts Try.info32
  refine wpList_make_full w hg l c 44 hop w.heap.size 32 i0 (.slice none 0 0) 1 Try.underlying44 hi hz0 hz1 .i64 .i64 L C n hl hc hL hC (by rw [hz2]; omega) (by unfold maxLen; omega) (Nat.le_refl _) ?_
  intro w1 hown hgrow
  have hs : w.heap.size < w1.heap.size := by
    have := (World.ownsRow.lt hown w.heap.size rfl).2
    exact this
  exact hK w1 (OwnLL.made hown hs) (below_grown hgrow (Nat.le_refl _) (by simp)) hs
/-- what is known in the midst of a row -/
def MdS (w0 : World) (A : Value) (vs : List Value) (L : List (List Int)) (g9 : Nat) (t b : List Int) (W : World) : Prop :=
  OwnLL w0.heap.size W.heap.size W A vs L ∧ PairIn W g9 t b ∧ Below w0.heap.size w0 W
theorem MdS.keep {w0 : World} {A : Value} {vs : List Value} {L : List (List Int)} {g9 : Nat} {t b : List Int} {W W' : World} (h : MdS w0 A vs L g9 t b W) (hb : Below W.heap.size W W') : MdS w0 A vs L g9 t b W' :=
  ⟨(OwnLL.below h.1 hb).mono (Nat.le_refl _) hb.size (Nat.le_refl _), h.2.1.below hb, Below.step h.2.2 hb⟩
theorem MdS.to {w0 : World} {g0 n g9 k g1 m c : Nat} {vs : List Value} {L : List (List Int)} {t b l : List Int} {W : World} (h : MdS w0 (.slice (some ⟨g0, 0, none⟩) n n) vs (L.set k l) g9 t b W) (hk : k < L.length) (hv : rowV vs k = .slice (some ⟨g1, 0, none⟩) m m) (hc : c < l.length) :
    Hid (MdS w0 (.slice (some ⟨g0, 0, none⟩) n n) vs (L.set k l) g9 t b W) ∧ (loadPm (.pointer (some ⟨g9, 0, none⟩))).run Try.prog W = .ok (.agg (pairC t b)) W ∧ W.cell? ⟨g0, k, none⟩ = some (.slice (some ⟨g1, 0, none⟩) m m) ∧ W.cell? ⟨g1, c, none⟩ = some (.int .i64 (l.getD c 0)) ∧ W.frozen? ⟨g1, c, none⟩ = false := by
  have hkl : k < (L.set k l).length := by rw [List.length_set]; exact hk
  obtain ⟨g, hg, _, _, h4, _⟩ := h.1.at (by omega)
  have e : g0 = g := by simpa using hg
  subst e
  have ho := h.1.own k hkl
  rw [hv, getD_setL_eq hk] at ho
  exact ⟨h, run_loadPm W g9 t b h.2.1, by rw [h4 k hkl, hv], ho.cellAt c hc, ho.frozenAt c⟩
theorem MdS.keepR {w0 : World} {g0 n g9 k g1 m c : Nat} {vs : List Value} {L : List (List Int)} {t b l : List Int} {W W' : World} (hk : k < L.length) (hv : rowV vs k = .slice (some ⟨g1, 0, none⟩) m m) (hc : c < l.length) (hb : Below W.heap.size W W') (h : Hid (MdS w0 (.slice (some ⟨g0, 0, none⟩) n n) vs (L.set k l) g9 t b W)) :
    Hid (MdS w0 (.slice (some ⟨g0, 0, none⟩) n n) vs (L.set k l) g9 t b W') ∧ (loadPm (.pointer (some ⟨g9, 0, none⟩))).run Try.prog W' = .ok (.agg (pairC t b)) W' ∧ W'.cell? ⟨g0, k, none⟩ = some (.slice (some ⟨g1, 0, none⟩) m m) ∧ W'.cell? ⟨g1, c, none⟩ = some (.int .i64 (l.getD c 0)) ∧ W'.frozen? ⟨g1, c, none⟩ = false := MdS.to (h.out.keep hb) hk hv hc
theorem MdS.bel {w0 : World} {A : Value} {vs : List Value} {L : List (List Int)} {g9 : Nat} {t b : List Int} {W : World} (h : Hid (MdS w0 A vs L g9 t b W)) : Below w0.heap.size w0 W := h.out.2.2
theorem MdS.next {w0 : World} {g0 n g9 k g1 m c : Nat} {vs : List Value} {L : List (List Int)} {t b l l2 : List Int} {y : Int} {W : World} (hk : k < L.length) (hv : rowV vs k = .slice (some ⟨g1, 0, none⟩) m m) (hg : w0.heap.size ≤ g1) (hl : l.set c y = l2) (h : Hid (MdS w0 (.slice (some ⟨g0, 0, none⟩) n n) vs (L.set k l) g9 t b W)) :
    Hid (OwnLL w0.heap.size (W.setCell ⟨g1, c, none⟩ (.int .i64 y)).heap.size (W.setCell ⟨g1, c, none⟩ (.int .i64 y)) (.slice (some ⟨g0, 0, none⟩) n n) vs (L.set k l2)) ∧ Hid (Below w0.heap.size w0 (W.setCell ⟨g1, c, none⟩ (.int .i64 y))) := by
  subst hl
  exact ⟨(OwnLL.put h.out.1 hk hv c y).mono (Nat.le_refl _) (by simp) (Nat.le_refl _), h.out.2.2.setCell (p := ⟨g1, c, none⟩) hg _⟩
set_option maxHeartbeats 4000000 in
set_option maxRecDepth 100000 in
theorem made_components (F : List Int → List Int → Int) (R : List (List (List Int × List Int))) (hR : R.length ≤ 14) (hQ : ∀ k, k < R.length → (R.getD k []).length ≤ 14) (w : World)
    (hF : ∀ k c, k < R.length → c < (R.getD k []).length → ∀ W, Below w.heap.size w W → Calls Try.prog 47 #[.agg (pairC (pAt (R.getD k []) c).1 (pAt (R.getD k []) c).2)] W (fun e w' => e = .returned (.int .i64 (F (pAt (R.getD k []) c).1 (pAt (R.getD k []) c).2)) ∧ Below W.heap.size W w'))
    (lo hi : Nat) (v : Value) (vs : List Value) (hown : OwnPP lo hi w v vs R) :
    Calls Try.prog 45 #[v, .func (.func 47) #[] #[]] w (MadeLL w (R.map (rowM F))) := by
  obtain ⟨a0, c0, rfl, hx1, hx2⟩ := hown.form
  unfold maxLen at hx2
  have HO := Lib.hid hown; have HF := Lib.hid hF; have HQ := Lib.hid hQ
  have HZ := Lib.hid (baseM_zero F R); have HAL := Lib.hid (baseM_all F R); have HLN := Lib.hid (fun k hk => baseM_len F R k hk); have HST := Lib.hid (fun k hk => baseM_set F R k hk)
  clear hown hF hQ
  go_enter Try.func45, Try.ntmps45
  go_wp2_with (at_make; refine wp_makeSq w rfl _ _ rfl R.length _ _ rfl rfl rfl rfl (by omega) ?_; intro w1 ho1 hb1 hs1; have HO1 := Lib.hid ho1; have HB1 := Lib.hid hb1; clear ho1 hb1 hs1)
  go_loopw [15] (fun i wr => ∃ (k : Nat) (us : List Value), k ≤ R.length ∧ i = .int .i64 (k : Int) ∧ Hid (OwnLL w.heap.size wr.heap.size wr (.slice (some ⟨w.heap.size, 0, none⟩) R.length R.length) us (baseM F R k)) ∧ Hid (Below w.heap.size w wr)) (fun i _ => R.length - (intOf i).toNat)
  case atStart => exact ⟨0, _, by omega, rfl, by rw [HZ.out]; exact HO1, HB1⟩
  case round =>
    clear HO1 HB1
    obtain ⟨k, us, hk, rfl, HL, HBE⟩ := hrel
    generalize wr = wc at *
    by_cases hlt : k < R.length
    · have hd := HO.out.below HBE.out
      obtain ⟨g, rfl, hrow⟩ := hd.at (by omega)
      have hr := hrow k hlt
      have hp := hd.own k hlt
      obtain ⟨p1, p3, hpv, hp1, hp2⟩ := hp.form
      have hpp := fun W (hb : Below w.heap.size w W) => (HO.out.below hb).own k hlt
      rw [hpv] at hr hp
      simp only [hpv] at hpp
      have HP := Lib.hid hpp
      have hq14 := HQ.out k hlt
      have HFK := Lib.hid (fun c hc => HF.out k c hlt hc)
      have HLK := Lib.hid (HLN.out k hk)
      have HSK := Lib.hid (HST.out k hlt)
      have hus := HL.out.len
      rw [HLK.out] at hus
      have HUS := Lib.hid hus
      obtain ⟨gA, hgA, _, _, hcA, hfA⟩ := HL.out.at (by rw [HLK.out]; omega)
      have eA : gA = w.heap.size := by simpa using hgA.symm
      subst eA
      have HCA := Lib.hid hcA; have HFA := Lib.hid hfA
      generalize R.getD k [] = Q at *
      unfold maxLen at hp2
      clear hd hrow hp hpp hpv hus hgA hcA hfA
      generalize hB : baseM F R k = BB at *
      have HBB := Lib.hid hB
      clear hB
      have HFZ := Lib.hid (fillM_zero F Q); have HFA2 := Lib.hid (fillM_all F Q); have HFS := Lib.hid (fun c hc => fillM_set F Q c hc); have HFL := Lib.hid (fun c hc => fillM_len F Q c hc)
      obtain ⟨m, hm⟩ : ∃ m, m = Q.length := ⟨_, rfl⟩
      rw [← hm] at hr hp1 hq14 HP HFK HFZ HFA2 HFS HFL
      have HM := Lib.hid hm
      clear hm
      have hsz := HBE.out.size
      go_wp2_with (first
        | (at_make; refine wp_make wc rfl _ _ rfl m _ _ rfl rfl rfl rfl (by omega) ?_; intro w3 ho3 hb3 hs3; have HO3 := Lib.hid ho3; have HB3 := Lib.hid hb3; have hkA := (hb3.cell (p := ⟨w.heap.size, k, none⟩) (World.block_lt_of_cell? _ _ (HCA.out k (by rw [HLK.out]; exact hlt)))).trans (HCA.out k (by rw [HLK.out]; exact hlt)); have HL3 := Lib.hid (OwnLL.below HL.out hb3); have hkF : w3.frozen? ⟨w.heap.size, k, none⟩ = false := (by obtain ⟨gA, hgA, _, _, _, hfA⟩ := HL3.out.at (by rw [HLK.out]; omega); have eA : w.heap.size = gA := (by simpa using hgA); subst eA; exact hfA k); clear ho3 hb3 hs3))
      have hl4 := Lib.hid ((OwnLL.stored HL3.out HO3.out (Nat.le_refl _) hsz k (by rw [HLK.out]; exact hlt)).mono (Nat.le_refl _) (show w3.heap.size ≤ (w3.setCell ⟨w.heap.size, k, none⟩ (.slice (some ⟨wc.heap.size, 0, none⟩) m m)).heap.size by simp) (Nat.le_refl _))
      rw [← HFZ.out] at hl4
      have HB4 : Hid (Below w.heap.size w (w3.setCell ⟨w.heap.size, k, none⟩ (.slice (some ⟨wc.heap.size, 0, none⟩) m m))) := (Below.step HBE.out HB3.out).setCell (p := ⟨w.heap.size, k, none⟩) (Nat.le_refl _) _
      have HV : Hid (rowV (us.set k (.slice (some ⟨wc.heap.size, 0, none⟩) m m)) k = .slice (some ⟨wc.heap.size, 0, none⟩) m m) := rowV_set_eq (by rw [HUS.out]; exact hlt)
      clear hkA hkF hr HL HCA HFA HO3 HB3 HL3
      generalize us.set k (.slice (some ⟨wc.heap.size, 0, none⟩) m m) = us2 at *
      have HG1 := Lib.hid hsz
      generalize hg1 : wc.heap.size = g1 at *
      generalize w3.setCell ⟨w.heap.size, k, none⟩ (.slice (some ⟨g1, 0, none⟩) m m) = w4 at *
      clear hg1 hsz HBE
      go_loopw [28] (fun i wr => ∃ (c : Nat), c ≤ m ∧ i = .int .i64 (c : Int) ∧ Hid (OwnLL w.heap.size wr.heap.size wr (.slice (some ⟨w.heap.size, 0, none⟩) R.length R.length) us2 (BB.set k (fillM F Q c))) ∧ Hid (Below w.heap.size w wr)) (fun i _ => m - (intOf i).toNat)
      case atStart => exact ⟨0, by omega, rfl, by have h := hl4.out; exact Lib.hid (by simpa using h), HB4⟩
      case round =>
        clear hl4 HB4
        obtain ⟨c, hc, rfl, HL, HBE⟩ := hrel
        generalize wr = wd at *
        by_cases hcm : c < m
        · have hp := HP.out wd HBE.out
          obtain ⟨gp, rfl, -, -, -, hrg, -⟩ := hp.at (by have := HM.out; omega)
          have hr := hrg c (by have := HM.out; omega)
          have HFC := Lib.hid (HFK.out c (by have := HM.out; omega))
          have HSC := Lib.hid (HFS.out c hcm)
          have HLC := Lib.hid (HFL.out c (Nat.le_of_lt hcm))
          have hrr : wd.rangeAt gp (c * 26) (pairC (pAt Q c).1 (pAt Q c).2).toList := hr
          have HR := Lib.hid hrr
          generalize hy : F (pAt Q c).1 (pAt Q c).2 = y at *
          rcases hq : pAt Q c with ⟨t, b⟩
          rw [hq] at HR HFC
          simp only at HR HFC
          generalize fillM F Q c = f1 at *
          clear hp hrg hr hrr hy hq
          go_wp2_with (first
            | (with_reducible refine boxP_load rfl (.tmp 31) rfl gp (c * 26) t b rfl HR.out ?_)
            | ((with_reducible refine wp_storePairN rfl (.tmp 9) (.tmp 32) rfl t b rfl rfl ?_); intro w5 hs5 hb5; have HS5 := Lib.hid hs5; have HB5 := Lib.hid hb5; clear hs5 hb5))
          have HM5 : Hid (MdS w (.slice (some ⟨w.heap.size, 0, none⟩) R.length R.length) us2 (BB.set k f1) wd.heap.size t b w5) := ⟨(OwnLL.below HL.out HB5.out).mono (Nat.le_refl _) HB5.out.size (Nat.le_refl _), HS5.out, Below.step HBE.out HB5.out⟩
          have HKB : Hid (k < BB.length) := by show _ < _; rw [HLK.out]; exact hlt
          have HCF : Hid (c < f1.length) := by show _ < _; rw [HLC.out]; exact hcm
          have HNX := Lib.hid (fun (W : World) (h : Hid (MdS w (.slice (some ⟨w.heap.size, 0, none⟩) R.length R.length) us2 (BB.set k f1) wd.heap.size t b W)) => MdS.next HKB.out HV.out HG1.out HSC.out h)
          obtain ⟨Y0, y1, y2, y3, y4⟩ := MdS.keepR HKB.out HV.out HCF.out (Below.drew (Below.refl w5.heap.size w5)) HM5
          have z2 : w5.cell? ⟨w.heap.size, k, none⟩ = some (.slice (some ⟨g1, 0, none⟩) m m) := y2
          have z3 : w5.cell? ⟨g1, c, none⟩ = some (.int .i64 (f1.getD c 0)) := y3
          have z4 : w5.frozen? ⟨g1, c, none⟩ = false := y4
          clear y2 y3 y4 HL HBE HS5 HB5 HM5
          have i1 : (0 : Int) ≤ (k : Int) := by omega
          have i2 : (k : Int) < (R.length : Int) := by omega
          have i3 : (0 : Int) ≤ (c : Int) := by omega
          have i4 : (c : Int) < (m : Int) := by omega
          generalize wd.heap.size = g9 at *
          go_region_with (go_at_call 47; ((with_reducible refine (HFC.out _ (MdS.bel (by assumption))).mono ?_); rintro e' w' ⟨rfl, hb'⟩; obtain ⟨Y0, y1, y2, y3, y4⟩ := MdS.keepR HKB.out HV.out HCF.out hb' (by assumption)))
          all_goals
            go_wp2_with fail
            go_roundw
            · exact ⟨c + 1, by omega, by simp, (HNX.out _ (by assumption)).1, (HNX.out _ (by assumption)).2⟩
            · simp [intOf]; omega
        · obtain rfl : c = m := by omega
          have HX := HL
          rw [HFA2.out] at HX
          go_wp2_with fail
          go_roundw
          case rel => exact ⟨k + 1, us2, by omega, by go_num, by rw [← HSK.out]; exact HX, HBE⟩
          case measure => simp [intOf]; omega
    · obtain rfl : k = R.length := by omega
      have HX := HL
      rw [HAL.out] at HX
      go_wp2_with fail
      go_ret
      exact ⟨_, us, rfl, HX.out, HBE.out⟩
set_option maxHeartbeats 4000000 in
set_option maxRecDepth 100000 in
theorem made_power (F : List Int → List Int → Int) (gx : Nat) (R : List (List (List Int × List Int))) (hR : R.length ≤ 14) (hQ : ∀ k, k < R.length → (R.getD k []).length ≤ 14) (w : World)
    (hF : ∀ k c, k < R.length → c < (R.getD k []).length → ∀ W, Below w.heap.size w W → Calls Try.prog 68 #[.agg (pairC (pAt (R.getD k []) c).1 (pAt (R.getD k []) c).2), .pointer (some ⟨gx, 0, none⟩)] W (fun e w' => e = .returned (.int .i64 (F (pAt (R.getD k []) c).1 (pAt (R.getD k []) c).2)) ∧ Below W.heap.size W w'))
    (lo hi : Nat) (v : Value) (vs : List Value) (hown : OwnPP lo hi w v vs R) :
    Calls Try.prog 45 #[v, .func (.func 68) #[] #[.pointer (some ⟨gx, 0, none⟩)]] w (MadeLL w (R.map (rowM F))) := by
  obtain ⟨a0, c0, rfl, hx1, hx2⟩ := hown.form
  unfold maxLen at hx2
  have HO := Lib.hid hown; have HF := Lib.hid hF; have HQ := Lib.hid hQ
  have HZ := Lib.hid (baseM_zero F R); have HAL := Lib.hid (baseM_all F R); have HLN := Lib.hid (fun k hk => baseM_len F R k hk); have HST := Lib.hid (fun k hk => baseM_set F R k hk)
  clear hown hF hQ
  go_enter Try.func45, Try.ntmps45
  go_wp2_with (at_make; refine wp_makeSq w rfl _ _ rfl R.length _ _ rfl rfl rfl rfl (by omega) ?_; intro w1 ho1 hb1 hs1; have HO1 := Lib.hid ho1; have HB1 := Lib.hid hb1; clear ho1 hb1 hs1)
  go_loopw [15] (fun i wr => ∃ (k : Nat) (us : List Value), k ≤ R.length ∧ i = .int .i64 (k : Int) ∧ Hid (OwnLL w.heap.size wr.heap.size wr (.slice (some ⟨w.heap.size, 0, none⟩) R.length R.length) us (baseM F R k)) ∧ Hid (Below w.heap.size w wr)) (fun i _ => R.length - (intOf i).toNat)
  case atStart => exact ⟨0, _, by omega, rfl, by rw [HZ.out]; exact HO1, HB1⟩
  case round =>
    clear HO1 HB1
    obtain ⟨k, us, hk, rfl, HL, HBE⟩ := hrel
    generalize wr = wc at *
    by_cases hlt : k < R.length
    · have hd := HO.out.below HBE.out
      obtain ⟨g, rfl, hrow⟩ := hd.at (by omega)
      have hr := hrow k hlt
      have hp := hd.own k hlt
      obtain ⟨p1, p3, hpv, hp1, hp2⟩ := hp.form
      have hpp := fun W (hb : Below w.heap.size w W) => (HO.out.below hb).own k hlt
      rw [hpv] at hr hp
      simp only [hpv] at hpp
      have HP := Lib.hid hpp
      have hq14 := HQ.out k hlt
      have HFK := Lib.hid (fun c hc => HF.out k c hlt hc)
      have HLK := Lib.hid (HLN.out k hk)
      have HSK := Lib.hid (HST.out k hlt)
      have hus := HL.out.len
      rw [HLK.out] at hus
      have HUS := Lib.hid hus
      obtain ⟨gA, hgA, _, _, hcA, hfA⟩ := HL.out.at (by rw [HLK.out]; omega)
      have eA : gA = w.heap.size := by simpa using hgA.symm
      subst eA
      have HCA := Lib.hid hcA; have HFA := Lib.hid hfA
      generalize R.getD k [] = Q at *
      unfold maxLen at hp2
      clear hd hrow hp hpp hpv hus hgA hcA hfA
      generalize hB : baseM F R k = BB at *
      have HBB := Lib.hid hB
      clear hB
      have HFZ := Lib.hid (fillM_zero F Q); have HFA2 := Lib.hid (fillM_all F Q); have HFS := Lib.hid (fun c hc => fillM_set F Q c hc); have HFL := Lib.hid (fun c hc => fillM_len F Q c hc)
      obtain ⟨m, hm⟩ : ∃ m, m = Q.length := ⟨_, rfl⟩
      rw [← hm] at hr hp1 hq14 HP HFK HFZ HFA2 HFS HFL
      have HM := Lib.hid hm
      clear hm
      have hsz := HBE.out.size
      go_wp2_with (first
        | (at_make; refine wp_make wc rfl _ _ rfl m _ _ rfl rfl rfl rfl (by omega) ?_; intro w3 ho3 hb3 hs3; have HO3 := Lib.hid ho3; have HB3 := Lib.hid hb3; have hkA := (hb3.cell (p := ⟨w.heap.size, k, none⟩) (World.block_lt_of_cell? _ _ (HCA.out k (by rw [HLK.out]; exact hlt)))).trans (HCA.out k (by rw [HLK.out]; exact hlt)); have HL3 := Lib.hid (OwnLL.below HL.out hb3); have hkF : w3.frozen? ⟨w.heap.size, k, none⟩ = false := (by obtain ⟨gA, hgA, _, _, _, hfA⟩ := HL3.out.at (by rw [HLK.out]; omega); have eA : w.heap.size = gA := (by simpa using hgA); subst eA; exact hfA k); clear ho3 hb3 hs3))
      have hl4 := Lib.hid ((OwnLL.stored HL3.out HO3.out (Nat.le_refl _) hsz k (by rw [HLK.out]; exact hlt)).mono (Nat.le_refl _) (show w3.heap.size ≤ (w3.setCell ⟨w.heap.size, k, none⟩ (.slice (some ⟨wc.heap.size, 0, none⟩) m m)).heap.size by simp) (Nat.le_refl _))
      rw [← HFZ.out] at hl4
      have HB4 : Hid (Below w.heap.size w (w3.setCell ⟨w.heap.size, k, none⟩ (.slice (some ⟨wc.heap.size, 0, none⟩) m m))) := (Below.step HBE.out HB3.out).setCell (p := ⟨w.heap.size, k, none⟩) (Nat.le_refl _) _
      have HV : Hid (rowV (us.set k (.slice (some ⟨wc.heap.size, 0, none⟩) m m)) k = .slice (some ⟨wc.heap.size, 0, none⟩) m m) := rowV_set_eq (by rw [HUS.out]; exact hlt)
      clear hkA hkF hr HL HCA HFA HO3 HB3 HL3
      generalize us.set k (.slice (some ⟨wc.heap.size, 0, none⟩) m m) = us2 at *
      have HG1 := Lib.hid hsz
      generalize hg1 : wc.heap.size = g1 at *
      generalize w3.setCell ⟨w.heap.size, k, none⟩ (.slice (some ⟨g1, 0, none⟩) m m) = w4 at *
      clear hg1 hsz HBE
      go_loopw [28] (fun i wr => ∃ (c : Nat), c ≤ m ∧ i = .int .i64 (c : Int) ∧ Hid (OwnLL w.heap.size wr.heap.size wr (.slice (some ⟨w.heap.size, 0, none⟩) R.length R.length) us2 (BB.set k (fillM F Q c))) ∧ Hid (Below w.heap.size w wr)) (fun i _ => m - (intOf i).toNat)
      case atStart => exact ⟨0, by omega, rfl, by have h := hl4.out; exact Lib.hid (by simpa using h), HB4⟩
      case round =>
        clear hl4 HB4
        obtain ⟨c, hc, rfl, HL, HBE⟩ := hrel
        generalize wr = wd at *
        by_cases hcm : c < m
        · have hp := HP.out wd HBE.out
          obtain ⟨gp, rfl, -, -, -, hrg, -⟩ := hp.at (by have := HM.out; omega)
          have hr := hrg c (by have := HM.out; omega)
          have HFC := Lib.hid (HFK.out c (by have := HM.out; omega))
          have HSC := Lib.hid (HFS.out c hcm)
          have HLC := Lib.hid (HFL.out c (Nat.le_of_lt hcm))
          have hrr : wd.rangeAt gp (c * 26) (pairC (pAt Q c).1 (pAt Q c).2).toList := hr
          have HR := Lib.hid hrr
          generalize hy : F (pAt Q c).1 (pAt Q c).2 = y at *
          rcases hq : pAt Q c with ⟨t, b⟩
          rw [hq] at HR HFC
          simp only at HR HFC
          generalize fillM F Q c = f1 at *
          clear hp hrg hr hrr hy hq
          go_wp2_with (first
            | (with_reducible refine boxP_load rfl (.tmp 31) rfl gp (c * 26) t b rfl HR.out ?_)
            | ((with_reducible refine wp_storePairN rfl (.tmp 9) (.tmp 32) rfl t b rfl rfl ?_); intro w5 hs5 hb5; have HS5 := Lib.hid hs5; have HB5 := Lib.hid hb5; clear hs5 hb5))
          have HM5 : Hid (MdS w (.slice (some ⟨w.heap.size, 0, none⟩) R.length R.length) us2 (BB.set k f1) wd.heap.size t b w5) := ⟨(OwnLL.below HL.out HB5.out).mono (Nat.le_refl _) HB5.out.size (Nat.le_refl _), HS5.out, Below.step HBE.out HB5.out⟩
          have HKB : Hid (k < BB.length) := by show _ < _; rw [HLK.out]; exact hlt
          have HCF : Hid (c < f1.length) := by show _ < _; rw [HLC.out]; exact hcm
          have HNX := Lib.hid (fun (W : World) (h : Hid (MdS w (.slice (some ⟨w.heap.size, 0, none⟩) R.length R.length) us2 (BB.set k f1) wd.heap.size t b W)) => MdS.next HKB.out HV.out HG1.out HSC.out h)
          obtain ⟨Y0, y1, y2, y3, y4⟩ := MdS.keepR HKB.out HV.out HCF.out (Below.drew (Below.refl w5.heap.size w5)) HM5
          have z2 : w5.cell? ⟨w.heap.size, k, none⟩ = some (.slice (some ⟨g1, 0, none⟩) m m) := y2
          have z3 : w5.cell? ⟨g1, c, none⟩ = some (.int .i64 (f1.getD c 0)) := y3
          have z4 : w5.frozen? ⟨g1, c, none⟩ = false := y4
          clear y2 y3 y4 HL HBE HS5 HB5 HM5
          have i1 : (0 : Int) ≤ (k : Int) := by omega
          have i2 : (k : Int) < (R.length : Int) := by omega
          have i3 : (0 : Int) ≤ (c : Int) := by omega
          have i4 : (c : Int) < (m : Int) := by omega
          generalize wd.heap.size = g9 at *
          go_region_with (go_at_call 68; ((with_reducible refine (HFC.out _ (MdS.bel (by assumption))).mono ?_); rintro e' w' ⟨rfl, hb'⟩; obtain ⟨Y0, y1, y2, y3, y4⟩ := MdS.keepR HKB.out HV.out HCF.out hb' (by assumption)))
          all_goals
            go_wp2_with fail
            go_roundw
            · exact ⟨c + 1, by omega, by simp, (HNX.out _ (by assumption)).1, (HNX.out _ (by assumption)).2⟩
            · simp [intOf]; omega
        · obtain rfl : c = m := by omega
          have HX := HL
          rw [HFA2.out] at HX
          go_wp2_with fail
          go_roundw
          case rel => exact ⟨k + 1, us2, by omega, by go_num, by rw [← HSK.out]; exact HX, HBE⟩
          case measure => simp [intOf]; omega
    · obtain rfl : k = R.length := by omega
      have HX := HL
      rw [HAL.out] at HX
      go_wp2_with fail
      go_ret
      exact ⟨_, us, rfl, HX.out, HBE.out⟩
end Go.Proofs.Ytgaaddfipkdlaab
