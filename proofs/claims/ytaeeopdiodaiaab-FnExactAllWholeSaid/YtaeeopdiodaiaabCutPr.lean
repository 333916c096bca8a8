/- All pairs in the model; pairs chosen in the program; CountWhole. -/
import Derived.Test.YtaeeopdiodaiaabCutWs
import Derived.Test.YtaeeopdiodaiaabMeAll
import Derived.Test.YtaeeopdiodaiaabAhAll
namespace Go.Proofs.Ytaeeopdiodaiaab
open Go.RowKit
set_option linter.unusedSimpArgs false
set_option linter.unusedVariables false

theorem Own.lit0c (B : Nat) (w : World) (hB : B ≤ w.heap.size) : Own B (w.alloc (.cells #[] 3)) (.slice (some ⟨w.heap.size, 0, none⟩) 0 0) [] :=
  World.ownsRow_lit w #[] 0 hB (by unfold maxLen; omega) rfl

set_option maxHeartbeats 1000000 in
theorem l1Own_cut (v : Value) (l : List Int) (w : World) (h : Rd w v l) (hl : l.length ≤ 1000000) : Calls Try.prog 68 #[v] w (Made w l) := by
  have HR := Lib.hid h; have HL := Lib.hid hl; clear h hl
  go_enter Try.func68, Try.ntmps68
  go_wp2_with (at_builtin; refine wp_append _ rfl _ _ rfl w.heap.size _ v [] l rfl rfl (Own.lit0c _ _ (Nat.le_refl _)) (Rd.below HR.out (Below.alloc1 _ _)) (by have := HL.out; simp; omega) (by simp) ?_; intro v' w1 hown1 hgr hbel1)
  go_ret
  exact ⟨_, rfl, hown1, (Below.alloc1 _ _).trans hbel1⟩

def MadeML (w : World) (ps : List (List Int × List Int)) (e : Ending) (w' : World) : Prop := ∃ v es, e = .returned v ∧ OwnML w.heap.size w' v es ps ∧ Below w.heap.size w w'
set_option maxRecDepth 100000 in
set_option maxHeartbeats 4000000 in
theorem siPairs_any (n : Nat) (hn : n ≤ 5) (w : World) : Calls Try.prog 41 #[.int .i64 (n : Int)] w (MadeML w (pairsN n)) := by
  have hah : ∀ w, Calls Try.prog 67 #[.int .i64 (n : Int), .int .i64 0] w (MadeLL w (allL n)) := fun w => ahAll_any 7 n 0 w (by omega) (by omega) (by omega) (by omega)
  have h42 := allL_42 hn
  have hlo : ∀ j, j < (allL n).length → ∀ w u, Rd w u ((allL n).getD j []) → Calls Try.prog 68 #[u] w (Made w ((allL n).getD j [])) := by
    intro j hj w u h
    have g1 := mem_good (by omega) (allL_mem hj)
    exact l1Own_cut u _ w h (by rw [g1.2]; omega)
  have hsu := fun k => upJ_succ (allL n) (allL n) k
  have hjl : ∀ j, (upJ ((allL n).take j) (allL n)).length ≤ 1764 := by
    intro j
    rw [upJ_len, List.length_take]
    exact Nat.le_trans (Nat.mul_le_mul (Nat.le_trans (Nat.min_le_right _ _) h42) h42) (by omega)
  have hfull : pairsN n = upJ ((allL n).take (allL n).length) (allL n) := by rw [List.take_length]; rfl
  rw [hfull]
  clear hfull
  generalize allL n = L at *
  have HAH := Lib.hid hah; have HLO := Lib.hid hlo; have HSU := Lib.hid hsu; have HJL := Lib.hid hjl
  clear hah hlo hsu hjl
  go_enter Try.func41, Try.ntmps41
  go_wp2_with (go_at_call 67; ((with_reducible refine (HAH.out _).mono ?_); rintro e w1 ⟨vu, us, rfl, hU, hb1⟩; obtain ⟨au, cu, rfl, hcu1, hcu2⟩ := hU.form; unfold maxLen at hcu2; have HU := Lib.hid hU; have HB1 := Lib.hid hb1; have hz1 := hb1.size; clear hb1 hU))
  go_loopw [4, 13] (fun o i wr => ∃ (j : Nat) (es : List (Value × Value)), j ≤ L.length ∧ i = .int .i64 (j : Int) ∧ OwnML w.heap.size wr o es (upJ (L.take j) L) ∧ OwnLL w.heap.size w1.heap.size wr (.slice au L.length cu) us L ∧ Away o w.heap.size w1.heap.size ∧ w1.heap.size ≤ wr.heap.size ∧ Below w.heap.size w wr) (fun _ i _ => L.length - (intOf i).toNat)
  case atStart => exact ⟨0, [], by omega, rfl, OwnML.nil _ _, HU.out, fun k hk => by simp [Value.ownBlock] at hk, Nat.le_refl _, HB1.out⟩
  case round =>
    obtain ⟨j, es, hj, rfl, hown, hUj, haw, hwj, hbel⟩ := hrel
    clear HU HB1
    generalize wr = wb at *
    by_cases hjt : j < L.length
    · obtain ⟨gu, rfl, hgu0, hgu1, hcellu, _⟩ := hUj.at (by omega)
      have hcu3 := hcellu j hjt
      have hsuc := HSU.out j hjt
      have hl1 := HLO.out j hjt
      have hjl := HJL.out j
      have hru := hUj.own j hjt
      generalize upJ (L.take j) L = S at *
      generalize L.getD j [] = p at *
      generalize hpe : rowV us j = pu at *
      obtain ⟨p1, p2, p3, rfl⟩ := hru.form'
      have HO := Lib.hid hown; have HUJ := Lib.hid hUj; have HBE := Lib.hid hbel; have HSC := Lib.hid hsuc; have HL1 := Lib.hid hl1; have HPE := Lib.hid hpe; have HAW := Lib.hid haw; have HRU := Lib.hid hru
      clear hcellu hown hUj hbel hsuc hl1 hpe haw hru
      go_wp2_with fail
      go_loopw [4, 19] (fun o i wr => ∃ (t : Nat) (es : List (Value × Value)), t ≤ L.length ∧ i = .int .i64 (t : Int) ∧ OwnML w.heap.size wr o es (S ++ (L.take t).map (fun q => (p, q))) ∧ OwnLL w.heap.size w1.heap.size wr (.slice (some ⟨gu, 0, none⟩) L.length cu) us L ∧ Own w.heap.size wr (.slice p1 p2 p3) p ∧ Away o w.heap.size w1.heap.size ∧ w1.heap.size ≤ wr.heap.size ∧ Below w.heap.size w wr) (fun _ i _ => L.length - (intOf i).toNat)
      case atStart => exact ⟨0, es, by omega, rfl, by simpa using HO.out, HUJ.out, HRU.out, HAW.out, hwj, HBE.out⟩
      case round =>
        obtain ⟨t, es2, ht, rfl, hown, hUt, hRt, haw1, hwt, hbel⟩ := hrel
        clear HO HUJ HBE HRU HAW
        generalize wr = wc at *
        by_cases htt : t < L.length
        · obtain ⟨gv, hgv, -, -, hcellv, _⟩ := hUt.at (by omega)
          obtain rfl : gu = gv := by simpa using hgv
          have hcv3 := hcellv t htt
          have hrv := hUt.own t htt
          have hl2 := HLO.out t htt
          have htk : S ++ (L.take (t + 1)).map (fun q => (p, q)) = (S ++ (L.take t).map (fun q => (p, q))) ++ [(p, L.getD t [])] := by
            rw [List.take_add_one, List.getElem?_eq_getElem htt, Option.toList_some, List.map_append, ← List.append_assoc]
            simp [List.getD, htt]
          have hln : (S ++ (L.take t).map (fun q => (p, q))).length ≤ 2000 := by rw [List.length_append, List.length_map, List.length_take]; omega
          generalize S ++ (L.take t).map (fun q => (p, q)) = R at *
          generalize L.getD t [] = q at *
          generalize hqe : rowV us t = qu at *
          obtain ⟨q1, q2, q3, rfl⟩ := hrv.form'
          have HTK := Lib.hid htk; have HO := Lib.hid hown; have HUT := Lib.hid hUt; have HRT := Lib.hid hRt; have HBE := Lib.hid hbel; have HRV := Lib.hid hrv; have HA1 := Lib.hid haw1; have HLN := Lib.hid hln; have HL2 := Lib.hid hl2
          have hsz := hbel.size
          clear hcellv hown hUt hRt hbel hrv htk haw1 hqe hln hl2 hgv
          go_wp2_with (first
            | (go_at_call_of 68 (Value.slice p1 p2 p3); ((with_reducible refine (HL1.out _ _ HRT.out.rd).mono ?_); rintro e w5 ⟨lv, rfl, hol, hb5⟩; obtain ⟨r1, r2, r3, rfl⟩ := hol.form'; have HOL5 := Lib.hid hol; have HB5 := Lib.hid hb5; have hz5 := hb5.size; clear hb5 hol))
            | (go_at_call 68; ((with_reducible refine (HL2.out _ _ (HRV.out.below HB5.out).rd).mono ?_); rintro e w6 ⟨mv, rfl, hom, hb6⟩; have HAP : Hid (ApartV (.slice r1 r2 r3) mv) := (fun k hk hk' => by have h1 := (HOL5.out.lt k hk).2; have h2 := (hom.lt k hk').1; omega); obtain ⟨s1, s2, s3, rfl⟩ := hom.form'; have HOL6 := Lib.hid ((HOL5.out.below hb6).mono hsz); have HOM6 := Lib.hid (hom.mono (Nat.le_trans hsz hz5)); have HB6 := Lib.hid (Below.step HB5.out hb6); have hz6 : wc.heap.size ≤ w6.heap.size := Nat.le_trans hz5 hb6.size; clear hb6 hom))
            | (at_builtin; refine wp_appendML _ rfl (.tmp 23) (.tmp 29) rfl w.heap.size w6.heap.size _ (.slice r1 r2 r3) (.slice s1 s2 s3) es2 R p q rfl rfl (cells_new w6 _ _ _).1 (cells_new w6 _ _ _).2 ((HO.out.below HB6.out).below (Below.alloc1 _ _)) (HOL6.out.below (Below.alloc1 _ _)) (HOM6.out.below (Below.alloc1 _ _)) HAP.out (by have := HLN.out; omega) (by simp; omega) ?_; intro o' w7 ho7 hg7 hb7 hw7; have HO7 := Lib.hid ho7; have B67 := Lib.hid (HB6.out.trans ((Below.alloc1 w6 (.cells #[.slice r1 r2 r3, .slice s1 s2 s3] 33)).mono hz6)); have HU7 := Lib.hid ((HUT.out.below B67.out).grown hg7 (fun k hk => HA1.out k hk)); have HR7 := Lib.hid ((HRT.out.below B67.out).grown hg7 (fun k hk e => own_apartM (HRT.out.below B67.out) ((HO.out.below HB6.out).below (Below.alloc1 w6 (.cells #[.slice r1 r2 r3, .slice s1 s2 s3] 33))).1 k hk e)); have HA17 : Hid (Away o' w.heap.size w1.heap.size) := (fun k hk => by rcases hw7 k hk with h8 | h8; exact HA1.out k h8; have := (alloc_lt w6 (.cells #[.slice r1 r2 r3, .slice s1 s2 s3] 33)); exact .inr (by omega)); have hz7 : w1.heap.size ≤ w7.heap.size := Nat.le_trans hwt (Nat.le_trans B67.out.size hg7.size); have HB7 := Lib.hid ((HBE.out.trans (B67.out.mono hsz)).trans hb7); clear ho7 hg7 hb7 hw7))
          go_roundw
          case rel => exact ⟨t + 1, _, by omega, by go_num, by rw [HTK.out]; exact HO7.out, HU7.out, HR7.out, HA17.out, hz7, HB7.out⟩
          case measure => simp [intOf]; omega
        · obtain rfl : t = L.length := by omega
          rw [List.take_length, ← HSC.out] at hown
          have HO := Lib.hid hown; have HUT := Lib.hid hUt; have HA1 := Lib.hid haw1; have HBE := Lib.hid hbel
          clear hown hUt hRt haw1 hbel
          go_wp2_with fail
          go_roundw
          case rel => exact ⟨j + 1, es2, by omega, by go_num, HO.out, HUT.out, HA1.out, by omega, HBE.out⟩
          case measure => simp [intOf]; omega
    · obtain rfl : j = L.length := by omega
      obtain ⟨a5, c5, rfl, _⟩ := hown.form
      have HO := Lib.hid hown; have HBE := Lib.hid hbel
      clear hown hUj hbel haw
      go_wp2_with fail
      go_ret
      exact ⟨_, _, rfl, HO.out, HBE.out⟩

/-- an element of a slice of pairs of lists -/
theorem cellsML_at2 : ∀ (es : List (Value × Value)) (k : Nat), k < es.length → (cellsML es)[k * 2]? = some (es.getD k noV).1 ∧ (cellsML es)[k * 2 + 1]? = some (es.getD k noV).2
  | [], k, h => by simp at h
  | e :: r, 0, _ => by simp [cellsML]
  | e :: r, k + 1, h => by
    have := cellsML_at2 r k (by simpa using h)
    have e1 : (k + 1) * 2 = k * 2 + 1 + 1 := by omega
    simp only [cellsML, List.flatMap_cons, e1] at this ⊢
    simpa using this
theorem OwnML.elem {lo n c : Nat} {a : Option Addr} {w : World} {es : List (Value × Value)} {ps : List (List Int × List Int)} (h : OwnML lo w (.slice a n c) es ps) (k : Nat) (hk : k < ps.length) :
    ∃ g, a = some ⟨g, 0, none⟩ ∧ w.cell? ⟨g, k * 2, none⟩ = some (es.getD k noV).1 ∧ w.cell? ⟨g, k * 2 + 1, none⟩ = some (es.getD k noV).2 ∧ Rd w (es.getD k noV).1 (ps.getD k ([], [])).1 ∧ Rd w (es.getD k noV).2 (ps.getD k ([], [])).2 := by
  have h1 := h.1
  rcases h.1.2 with ⟨_, hn⟩ | ⟨g, cap, cur, hv, hB, hg, hnc, hcm, _⟩
  · omega
  · have hn : n = ps.length := by simp at hv; exact hv.2.1
    have ha : a = some ⟨g, 0, none⟩ := by simp at hv; exact hv.1
    subst ha; subst hn
    have hg2 := cellsML_at2 es k (by rw [h.2.1]; exact hk)
    refine ⟨g, rfl, ?_, ?_, (h.2.2 k hk).1.rd, (h.2.2 k hk).2.1.rd⟩
    · rw [World.ownsRow.cellAt h1 _ (by omega)]; exact hg2.1
    · rw [World.ownsRow.cellAt h1 _ (by omega)]; exact hg2.2
theorem takeP_filter (f : List Int × List Int → Bool) (L : List (List Int × List Int)) (k : Nat) (h : k < L.length) : ((L.take (k + 1)).filter f).length = ((L.take k).filter f).length + if f (L.getD k ([], [])) then 1 else 0 := by
  rw [filterP_take_succ f L k h, List.length_append]
  split <;> simp


set_option maxRecDepth 100000 in
set_option maxHeartbeats 4000000 in
theorem chosen_isWhole (ps : List (List Int × List Int)) (hgd : ∀ k, k < ps.length → ∀ w, Calls Try.prog 71 #[.agg (pairC (ps.getD k ([], [])).1 (ps.getD k ([], [])).2)] w (Tells w (wholeP (ps.getD k ([], []))))) (hn : ps.length ≤ 20000) (B : Nat) (w : World) (v : Value) (hown : OwnP B w v ps) :
    Calls Try.prog 62 #[v, .func (.func 71) #[] #[]] w (MadeP w (ps.filter wholeP)) := by
  have HCK := Lib.hid hgd
  have HFT := Lib.hid (fun k => filterP_take_succ wholeP ps k)
  have HFL : Hid (∀ k, ((ps.take k).filter wholeP).length ≤ ps.length) := fun k => Nat.le_trans (List.length_filter_le _ _) (by rw [List.length_take]; omega)
  have hfl : ps.filter wholeP = (ps.take ps.length).filter wholeP := by rw [List.take_length]
  rw [hfl]
  clear hfl hgd
  obtain ⟨a0, c0, rfl, hx1, hx2⟩ := hown.form
  unfold maxLen at hx2
  have HO := Lib.hid hown
  clear hown
  go_enter Try.func62, Try.ntmps62
  go_wp2_with fail
  go_loopw [5, 10] (fun o i wr => ∃ k : Nat, k ≤ ps.length ∧ i = .int .i64 (k : Int) ∧ OwnP w.heap.size wr o ((ps.take k).filter wholeP) ∧ Below w.heap.size w wr) (fun _ i _ => ps.length - (intOf i).toNat)
  case atStart => exact ⟨0, by omega, rfl, OwnP.nil _ _, Below.refl _ _⟩
  case round =>
    obtain ⟨k, hk, rfl, hown, hbel⟩ := hrel
    generalize wr = wc at *
    by_cases hlt : k < ps.length
    · obtain ⟨g, rfl, hy1, hy2, hy3, hrg, hth⟩ := (HO.out.below hbel).at (by omega)
      have hr := hrg k hlt
      have hsuc := HFT.out k hlt
      have hle := HFL.out k
      have hcall := HCK.out k hlt
      generalize wholeP (ps.getD k ([], [])) = M at *
      generalize ps.getD k ([], []) = p at *
      obtain ⟨t, b⟩ := p
      generalize (ps.take k).filter wholeP = S at *
      have HR := Lib.hid hr; have HCL := Lib.hid hcall; have HOQ := Lib.hid hown; have HBE := Lib.hid hbel; have HSU := Lib.hid hsuc
      have hsz := hbel.size
      clear hy1 hy2 hy3 hrg hth hr hcall hown hbel hsuc
      cases M with
      | true =>
        go_wp2_with (first
          | (with_reducible refine boxP_load rfl (.tmp 12) rfl g (k * 26) t b rfl HR.out ?_)
          | ((with_reducible refine wp_storePairN rfl (.tmp 7) (.tmp 13) rfl t b rfl rfl ?_); intro w5 hs5 hb5; have HS5 := Lib.hid hs5; have HB5 := Lib.hid hb5; clear hs5 hb5)
          | (with_reducible refine wp_loadPair rfl (.tmp 7) rfl wc.heap.size t b rfl HS5.out ?_)
          | (go_at_call 71; ((with_reducible refine (HCL.out _).mono ?_); rintro e w6 ⟨rfl, hb6⟩; have HS6 := Lib.hid (HS5.out.below hb6); have HB6 := Lib.hid (Below.step HB5.out hb6); clear hb6))
          | (with_reducible refine wp_loadPair rfl (.tmp 7) rfl wc.heap.size t b rfl HS6.out ?_)
          | (with_reducible refine wp_buildP1 _ rfl (.tmp 18) rfl t b rfl ?_)
          | (at_builtin; refine wp_appendPs _ rfl (.tmp 17) (.tmp 19) rfl w.heap.size w6.heap.size 1 1 _ S [(t, b)] rfl rfl rfl (fun j hj => built_cells w6 t b j hj) ((HOQ.out.below HB6.out).below (Below.alloc1 _ _)) (by simp; omega) (by have := HB6.out.size; simp; omega) ?_; intro o' w7 ho7 hg7 hb7 hw7; have HO7 := Lib.hid ho7; have HB7 := Lib.hid ((HBE.out.trans ((HB6.out.trans ((Below.alloc1 w6 (.cells (pairC t b) 70)).mono HB6.out.size)).mono hsz)).trans hb7); clear ho7 hg7 hb7 hw7))
        go_roundw
        case rel => exact ⟨k + 1, by omega, by go_num, by rw [HSU.out]; exact HO7.out, HB7.out⟩
        case measure => simp [intOf]; omega
      | false =>
        go_wp2_with (first
          | (with_reducible refine boxP_load rfl (.tmp 12) rfl g (k * 26) t b rfl HR.out ?_)
          | ((with_reducible refine wp_storePairN rfl (.tmp 7) (.tmp 13) rfl t b rfl rfl ?_); intro w5 hs5 hb5; have HS5 := Lib.hid hs5; have HB5 := Lib.hid hb5; clear hs5 hb5)
          | (with_reducible refine wp_loadPair rfl (.tmp 7) rfl wc.heap.size t b rfl HS5.out ?_)
          | (go_at_call 71; ((with_reducible refine (HCL.out _).mono ?_); rintro e w6 ⟨rfl, hb6⟩; have HB6 := Lib.hid (Below.step HB5.out hb6); clear hb6)))
        go_roundw
        case rel => exact ⟨k + 1, by omega, by go_num, by rw [HSU.out]; simpa using HOQ.out.below HB6.out, Below.step HBE.out HB6.out⟩
        case measure => simp [intOf]; omega
    · obtain rfl : k = ps.length := by omega
      obtain ⟨a5, c5, rfl, _⟩ := hown.form
      have HOQ := Lib.hid hown; have HBE := Lib.hid hbel
      clear hown hbel
      go_wp2_with fail
      go_ret
      exact ⟨_, rfl, HOQ.out, HBE.out⟩

set_option maxHeartbeats 1000000 in
theorem wholeOf_any (n : Nat) (hn : n ≤ 5) (w : World) : Calls Try.prog 45 #[.int .i64 (n : Int)] w (MadeP w ((pairsN n).filter wholeP)) := by
  have HPO := Lib.hid (fun w => pairsOf5_any n hn w)
  have HC := Lib.hid (fun B w v ho => chosen_isWhole (pairsN n) (fun k hk w => by
    have hg := pairsN_good (n := n) (by omega) (pairsN_at hk)
    exact isWhole_any _ _ (pair12 hg.1).1 w) (Nat.le_trans (pairsN_len5 hn) (by omega)) B w v ho)
  generalize pairsN n = L at *
  go_enter Try.func45, Try.ntmps45
  go_wp2_with (first
    | (go_at_call 57; ((with_reducible refine (HPO.out _).mono ?_); rintro e w1 ⟨pv, rfl, hop, hb1⟩; have HOP := Lib.hid hop; have HB1 := Lib.hid hb1; obtain ⟨qa, qc, rfl, -, -⟩ := hop.form; clear hop hb1))
    | (go_at_call 62; ((with_reducible refine (HC.out _ _ _ HOP.out).mono ?_); rintro e w2 ⟨mv, rfl, hom, hb2⟩; have HB2 := Lib.hid (Below.step HB1.out hb2); have HOM := Lib.hid hom; obtain ⟨ma, mc, rfl, -, -⟩ := hom.form; clear hom hb2)))
  go_ret
  exact ⟨_, rfl, HOM.out.mono HB1.out.size, HB2.out⟩


end Go.Proofs.Ytaeeopdiodaiaab
