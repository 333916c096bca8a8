/- MergePath and SplitPath on both sides. -/
import Derived.Test.YtfcjgcbjiongpabExPathS
import Derived.Test.YtfcjgcbjiongpabMeOf
namespace Go.Proofs.Ytfcjgcbjiongpab
open Go.RowKit
set_option linter.unusedSimpArgs false
set_option linter.unusedVariables false

def resP (by_ : Int) (t b : List Int) : List (List Int × List Int) := if archedB t b then (t :: tailF b by_ 12 t).map (fun q => (q, b)) else []
theorem path_small' (b : List Int) (by_ : Int) {t : List Int} (gt : goodB t = true) : (t :: tailF b by_ 12 t).length ≤ 13 ∧ ∀ k, k < (t :: tailF b by_ 12 t).length → ((t :: tailF b by_ 12 t).getD k []).length ≤ 12 := by
  have hf := tailF_facts b by_ 12 t gt
  have l12 := good_len' gt
  refine ⟨by simp; exact hf.2, fun k hk => ?_⟩
  have hm : (t :: tailF b by_ 12 t).getD k [] ∈ t :: tailF b by_ 12 t := by simp only [List.getD, List.getElem?_eq_getElem hk, Option.getD_some]; exact List.getElem_mem hk
  rcases List.mem_cons.1 hm with h | h
  · rw [h]; exact l12
  · rw [(hf.1 _ h).2]; exact l12
theorem resP_len (by_ : Int) (t b : List Int) : tot (flatP (resP by_ t b)) ≤ 1000000 ∧ ∀ i, i < (flatP (resP by_ t b)).length → ((flatP (resP by_ t b)).getD i []).length ≤ 1000000 := by
  unfold resP
  cases h : archedB t b with
  | true =>
    simp only [if_true]
    obtain ⟨gt, gb, hl, h0⟩ := arched_good h
    obtain ⟨h1, h2⟩ := path_small' b by_ gt
    have hb := good_len' gb
    generalize t :: tailF b by_ 12 t = R at *
    have hk : ∀ i, i < (flatP (R.map fun q => (q, b))).length → ((flatP (R.map fun q => (q, b))).getD i []).length ≤ 12 := by
      intro i hi
      rw [flatP_len, List.length_map] at hi
      have hk : i / 2 < (R.map fun q => (q, b)).length := by rw [List.length_map]; omega
      have a := flatP_at (R.map fun q => (q, b)) (i / 2) hk
      have e2 : (R.map fun q => (q, b)).getD (i / 2) ([], []) = (R.getD (i / 2) [], b) := by
        have : i / 2 < R.length := by omega
        simp [List.getD, this]
      rw [e2] at a
      have e : i = i / 2 * 2 ∨ i = i / 2 * 2 + 1 := by omega
      rcases e with e | e
      · rw [e, a.1]; exact h2 _ (by omega)
      · rw [e, a.2]; exact hb
    have := tot_le hk
    rw [flatP_len, List.length_map] at this
    exact ⟨by omega, fun i hi => Nat.le_trans (hk i hi) (by omega)⟩
  | false => exact ⟨by simp [flatP, tot], fun i hi => by simp [flatP] at hi⟩

set_option maxHeartbeats 4000000 in
set_option maxRecDepth 100000 in
theorem exMeanders_any (L : List (List Int)) (b : List Int) (lo hi : Nat) (w : World) (v u2 : Value) (vs : List Value) (hown : OwnLL lo hi w v vs L) (hlo : lo ≤ w.heap.size) (h2 : Rd w u2 b) (hb12 : b.length ≤ 12) (hn : L.length ≤ 1000) :
    Calls Try.prog 56 #[v, u2] w (fun e w' => ∃ v' es, e = .returned v' ∧ OwnML lo w' v' es (L.map fun q => (q, b)) ∧ Below w.heap.size w w') := by
  have HOB := Lib.hid (fun (w : World) (h : Rd w u2 b) => l1Own_any u2 b w h (by omega))
  obtain ⟨av, cv, rfl, hv1, hv2⟩ := hown.form
  unfold maxLen at hv2
  have HOW := Lib.hid hown; have HRB := Lib.hid h2; have HLO := Lib.hid hlo
  have HTK : Hid (∀ k, k < L.length → (L.take (k + 1)).map (fun q => (q, b)) = (L.take k).map (fun q => (q, b)) ++ [(L.getD k [], b)]) := fun k hk => by
    rw [List.take_succ_eq_append_getElem hk, List.map_append]
    simp [List.getD, hk]
  obtain ⟨a2, c2, rfl, _⟩ := h2
  clear hown hlo
  go_enter Try.func56, Try.ntmps56
  go_wp2_with fail
  go_loopw [5, 10] (fun o i wr => ∃ (k : Nat) (es : List (Value × Value)), k ≤ L.length ∧ i = .int .i64 (k : Int) ∧ OwnML lo wr o es ((L.take k).map fun q => (q, b)) ∧ Hid (∀ b, o.ownBlock = some b → w.heap.size ≤ b) ∧ Below w.heap.size w wr) (fun _ i _ => L.length - (intOf i).toNat)
  case atStart => exact ⟨0, [], by omega, rfl, OwnML.nil _ _, fun b hb => by simp [Value.ownBlock] at hb, Below.refl _ _⟩
  case round =>
    obtain ⟨k, es, hk, rfl, hml, HA, hbel⟩ := hrel
    generalize wr = wc at *
    by_cases hlt : k < L.length
    · have hU := HOW.out.below hbel
      obtain ⟨gu, rfl, _, _, hcell, _⟩ := hU.at (by omega)
      have hck := hcell k hlt
      have hru := hU.own k hlt
      have hin := hU.inr k hlt
      have hen := HOW.out.ends
      have htk := HTK.out k hlt
      have hLn : ((L.take k).map fun q => (q, b)).length ≤ 1000 := by rw [List.length_map, List.length_take]; omega
      generalize (L.take k).map (fun q => (q, b)) = S at *
      generalize L.getD k [] = q at *
      generalize rowV vs k = pr at *
      obtain ⟨x1, x2, x3, rfl⟩ := hru.form'
      have HRU := Lib.hid hru; have HN := Lib.hid hml; have HBE := Lib.hid hbel; have HTK2 := Lib.hid htk; have HIN := Lib.hid hin; have HLN := Lib.hid hLn; have HEN := Lib.hid hen
      have hsz := hbel.size
      clear hU hcell hru hin hml hbel htk hLn hen
      go_wp2_with (first
        | (go_at_call 65; ((with_reducible refine (HOB.out _ (HRB.out.below HBE.out)).mono ?_); rintro e w5 ⟨v5, rfl, ho5, hb5⟩; obtain ⟨y1, y2, y3, rfl⟩ := ho5.form'; have HO5 := Lib.hid ho5; have HB5 := Lib.hid hb5; have HAP : Hid (ApartV (.slice x1 x2 x3) (.slice y1 y2 y3)) := (fun k1 h1 h2 => by have h3 := HIN.out k1 h1; have h4 := ho5.lt k1 h2; have := HEN.out; omega); clear ho5 hb5))
        | (at_builtin; refine wp_appendML _ rfl (.tmp 14) (.tmp 19) rfl lo w5.heap.size _ (.slice x1 x2 x3) (.slice y1 y2 y3) es S q b rfl rfl (cells_new w5 _ _ _).1 (cells_new w5 _ _ _).2 ((HN.out.below HB5.out).below (Below.alloc1 _ _)) ((HRU.out.below HB5.out).below (Below.alloc1 _ _)) ((HO5.out.mono (Nat.le_trans HLO.out hsz)).below (Below.alloc1 _ _)) HAP.out (by have := HLN.out; omega) (by have := HB5.out.size; have := HLO.out; simp; omega) ?_; intro o' w7 ho7 hg7 hb7 hw7; have HO7 := Lib.hid ho7; have HA7 : Hid (∀ b, o'.ownBlock = some b → w.heap.size ≤ b) := (fun b hb => by rcases hw7 b hb with h8 | h8; exact HA.out b h8; have := HB5.out.size; simp at h8; omega); have HC5 := Lib.hid (HBE.out.trans ((HB5.out.alloc HB5.out.size (.cells #[.slice x1 x2 x3, .slice y1 y2 y3] 39)).mono hsz)); have HB7 := Lib.hid (HC5.out.grown hg7 HC5.out.size (fun k hk => HA.out k hk)); clear ho7 hg7 hb7 hw7))
      go_roundw
      case rel => exact ⟨k + 1, _, by omega, by go_num, by rw [HTK2.out]; exact HO7.out, HA7, HB7.out⟩
      case measure => simp [intOf]; omega
    · obtain rfl : k = L.length := by omega
      rw [List.take_length] at hml
      obtain ⟨a5, c5, rfl, _⟩ := hml.form
      have HN := Lib.hid hml; have HBE := Lib.hid hbel
      clear hml hbel
      go_wp2_with fail
      go_ret
      exact ⟨_, es, rfl, HN.out, HBE.out⟩
theorem hx_keep {w W W' : World} {a b : Addr} {x y : Value} (h : Hid (Below w.heap.size w W) ∧ W.cell? a = some x ∧ W.cell? b = some y) (hb : Below W.heap.size W W') : Hid (Below w.heap.size w W') ∧ W'.cell? a = some x ∧ W'.cell? b = some y :=
  ⟨Below.step h.1.out hb, (hb.cell (World.block_lt_of_cell? W _ h.2.1)).trans h.2.1, (hb.cell (World.block_lt_of_cell? W _ h.2.2)).trans h.2.2⟩

set_option maxHeartbeats 1000000 in
set_option maxRecDepth 100000 in
theorem pathBy_any (by_ : Int) (hby : by_ = 1 ∨ by_ = -1) (t b : List Int) (w : World) (u1 u2 : Value) (h1 : Rd w u1 t) (h2 : Rd w u2 b) :
    Calls Try.prog 57 #[.agg #[u1, u2], .int .i64 by_] w (GivesMF w (resP by_ t b) (archedB t b)) := by
  unfold resP
  have hA := Box2.new 39 w u1 u2
  have B1 : Below w.heap.size w (w.alloc (.cells #[u1, u2] 39)) := Below.alloc1 w _
  have k0 := hA.c0; have k1 := hA.c1
  have HR := Lib.hid (readArched_any t b _ u1 u2 (h1.below B1) (h2.below B1))
  have HB := Lib.hid B1
  clear hA B1 h1 h2
  cases h : archedB t b with
  | false =>
    rw [h] at HR
    simp only [Bool.false_eq_true, if_false] at HR ⊢
    clear h
    go_enter Try.func57, Try.ntmps57
    go_wp2_with fail
    refine HR.out.mono ?_
    rintro e w1 ⟨rfl, hb1⟩
    have HB1 := Lib.hid (Below.step HB.out hb1); clear hb1 k0 k1
    go_wp2_with ((with_reducible refine wp_storePairN rfl (.tmp 6) (.tmp 11) rfl [] [] rfl rfl ?_); intro w2 hs2 hb2; have HB2 := Lib.hid (Below.step HB1.out hb2); clear hs2 hb2)
    go_ret2
    exact ⟨_, [], rfl, (OwnMF.nil _ _).mono HB2.out.size, HB2.out⟩
  | true =>
    obtain ⟨gt, gb, hl, h0⟩ := arched_good h
    rw [h] at HR
    simp only [if_true] at HR ⊢
    have hm0 : meas b by_ t ≤ 12 := by
      have := compsL_le t b
      have := good_len' gt
      unfold meas
      split <;> omega
    obtain ⟨hp13, hp12⟩ := path_small' b by_ gt
    have hb12 := good_len' gb
    have hmap : ∀ T : List (List Int), (([] ++ [(t, b)] ++ T.map fun q => (q, b)) : List (List Int × List Int)) = (t :: T).map fun q => (q, b) := fun T => by simp
    have HEX : Hid (∀ (w2 : World), Calls Try.prog 43 #[.int .i64 by_, .slice (some ⟨w2.heap.size, 0, none⟩) 1 1] (w2.alloc (.cells (pairC t b) 55)) (PathOut w2.heap.size (w2.alloc (.cells (pairC t b) 55)) ((t :: tailF b by_ 12 t).map fun q => (q, b)))) := by
      intro w2
      have ho := OwnP.lit1 w2.heap.size w2 t b (Nat.le_refl _)
      have hB : w2.heap.size ≤ (w2.alloc (.cells (pairC t b) 55)).heap.size := by rw [World.size_alloc]; exact Nat.le_succ _
      have := extended_any b by_ hby gb 12 t [] w2.heap.size (w2.alloc (.cells (pairC t b) 55)) (.slice (some ⟨w2.heap.size, 0, none⟩) 1 1) gt hl hm0 (by simp) (by rw [List.nil_append]; exact ho) hB
      rw [hmap] at this
      exact this
    clear hmap
    generalize t :: tailF b by_ 12 t = R at *
    have HMF := Lib.hid (fun B w v ho => meandersFrom_any (R.map fun q => (q, b)) (fun k hk => by rw [List.length_map] at hk; have := hp12 k hk; simp [List.getD, hk] at this ⊢; exact ⟨this, hb12⟩) (by rw [List.length_map]; omega) B w v ho)
    have hlm : (R.map fun q => (q, b)).length = R.length := List.length_map ..
    have HLM := Lib.hid hlm
    generalize (R.map fun q => (q, b)) = M at *
    clear h gt gb hl h0 hm0 hp13 hp12 hlm hb12
    go_enter Try.func57, Try.ntmps57
    go_wp2_with fail
    refine HR.out.mono ?_
    rintro e w1 ⟨rfl, hb1⟩
    have HB1 := Lib.hid (Below.step HB.out hb1); clear hb1 k0 k1
    go_wp2_with (first
      | ((with_reducible refine wp_storePairN rfl (.tmp 6) (.tmp 11) rfl t b rfl rfl ?_); intro w2 hs2 hb2; have HQ2 := Lib.hid hs2; have HB2 := Lib.hid (Below.step HB1.out hb2); clear hs2 hb2)
      | (with_reducible refine wp_loadPair rfl (.tmp 6) rfl w1.heap.size t b rfl HQ2.out ?_)
      | (with_reducible refine wp_buildP1 _ rfl (.tmp 16) rfl t b rfl ?_)
      | (go_at_call 43; ((with_reducible refine (HEX.out w2).mono ?_); rintro e w4 ⟨v4, rfl, ho4, hb4⟩; obtain ⟨x4, y4, rfl, _⟩ := ho4.form; have HO4 := Lib.hid ho4; have HB4 := Lib.hid (Below.step HB2.out ((Below.alloc1 w2 (.cells (pairC t b) 55)).trans hb4)); clear ho4 hb4))
      | (go_at_call 77; ((with_reducible refine (HMF.out _ _ _ HO4.out).mono ?_); rintro e w5 ⟨rv, rvs, rfl, hor, hb5⟩; have HOR := Lib.hid hor; have HB5 := Lib.hid (Below.step HB4.out hb5); clear hor hb5)))
    go_ret2
    exact ⟨_, rvs, rfl, HOR.out.mono HB4.out.size, HB5.out⟩

theorem RdML_mono {lo lo' n : Nat} {w : World} {v : Value} {vs : List Value} {ls : List (List Int)} (h : RdML lo w v n vs ls) (hl : lo' ≤ lo) : RdML lo' w v n vs ls := by
  refine ⟨h.len, h.two, ⟨h.row.1, ?_⟩, fun i hi => (h.own i hi).mono hl⟩
  rcases h.row.2 with hn | ⟨g, cap, cur, hv, hB, rest⟩
  · exact .inl hn
  · exact .inr ⟨g, cap, cur, hv, by omega, rest⟩

def ok_MergePath (t b : List Int) : Bool := archedB t b
def res_MergePath (t b : List Int) : List (List Int × List Int) := resP (-1) t b
theorem len_MergePath (t b : List Int) : tot (flatP (res_MergePath t b)) ≤ 1000000 ∧ ∀ i, i < (flatP (res_MergePath t b)).length → ((flatP (res_MergePath t b)).getD i []).length ≤ 1000000 := resP_len _ t b
set_option maxHeartbeats 1000000 in
theorem impl_MergePath (t b : List Int) (w : World) (u1 u2 : Value) (h1 : Rd w u1 t) (h2 : Rd w u2 b) (m1 : t.length ≤ 1048576) (m2 : b.length ≤ 1048576) :
    Calls Try.prog 25 #[.agg #[u1, u2]] w (GivesMF w (res_MergePath t b) (ok_MergePath t b)) := by
  unfold res_MergePath ok_MergePath
  have hA := Box2.new 39 w u1 u2
  have B1 : Below w.heap.size w (w.alloc (.cells #[u1, u2] 39)) := Below.alloc1 w _
  have k0 := hA.c0; have k1 := hA.c1
  have HR := Lib.hid (pathBy_any (-1) (.inr rfl) t b _ u1 u2 (h1.below B1) (h2.below B1))
  have HB := Lib.hid B1
  generalize resP (-1) t b = R at *
  generalize archedB t b = K at *
  clear hA B1 h1 h2 m1 m2
  go_enter Try.func25, Try.ntmps25
  go_wp2_with fail
  refine HR.out.mono ?_
  rintro e w1 ⟨v1, vs1, rfl, ho1, hb1⟩
  obtain ⟨a5, c5, rfl, _⟩ := ho1.rd.form
  have HO1 := Lib.hid ho1; have HB1 := Lib.hid (Below.step HB.out hb1)
  clear ho1 hb1 k0 k1
  go_wp2_with fail
  go_ret2
  exact ⟨_, vs1, rfl, HO1.out.mono (by simp), HB1.out⟩

set_option maxHeartbeats 2000000 in
set_option maxRecDepth 100000 in
theorem spec_MergePath (t b : List Int) (w : World) (u1 u2 : Value) (h1 : Rd w u1 t) (h2 : Rd w u2 b) (m1 : t.length ≤ 1048576) (m2 : b.length ≤ 1048576) :
    Calls Try.prog 23 #[.agg #[u1, u2]] w (GivesRM w (res_MergePath t b) (ok_MergePath t b)) := by
  unfold res_MergePath ok_MergePath resP
  have hA := Box2.new 39 w u1 u2
  have B1 : Below w.heap.size w (w.alloc (.cells #[u1, u2] 39)) := Below.alloc1 w _
  have k0 := hA.c0; have k1 := hA.c1
  have HR := Lib.hid (exSome_any t b _ u1 u2 (h1.below B1) (h2.below B1) m1 m2)
  have HB := Lib.hid B1; have HA := Lib.hid hA; have H1 := Lib.hid (h1.below B1); have H2 := Lib.hid (h2.below B1)
  clear hA B1 h1 h2 m1 m2
  cases h : archedB t b with
  | false =>
    rw [h] at HR
    clear h
    simp only [Bool.false_eq_true, if_false]
    go_enter Try.func23, Try.ntmps23
    go_wp2_with fail
    refine HR.out.mono ?_
    rintro e w1 ⟨rfl, hb1⟩
    have HB1 := Lib.hid (Below.step HB.out hb1); clear hb1
    go_wp2
    go_ret2
    exact ⟨_, _, rfl, ((OwnMF.nil _ _).mono HB1.out.size).rd, HB1.out⟩
  | true =>
    rw [h] at HR
    obtain ⟨gt, gb, hl, h0⟩ := arched_good h
    simp only [if_true]
    have HP := Lib.hid (fun (w : World) (h1 : Rd w u1 t) (h2 : Rd w u2 b) => exPath_any t b (-1) (.inr rfl) gt gb hl w u1 u2 h1 h2)
    obtain ⟨hp13, hp12⟩ := path_small' b (-1) gt
    have hb12 := good_len' gb
    generalize t :: tailF b (-1) 12 t = R at *
    have HM := Lib.hid (fun lo hi (w : World) v vs ho hlo (h2 : Rd w u2 b) => exMeanders_any R b lo hi w v u2 vs ho hlo h2 hb12 (by omega))
    clear h gt gb hl h0 hp13 hp12 hb12
    go_enter Try.func23, Try.ntmps23
    go_wp2_with fail
    refine HR.out.mono ?_
    rintro e w1 ⟨rfl, hb1⟩
    have HA1 := Lib.hid (HA.out.below hb1)
    have H11 := Lib.hid (H1.out.below hb1); have H21 := Lib.hid (H2.out.below hb1); have HB1 := Lib.hid (Below.step HB.out hb1)
    clear hb1 k0 k1
    go_wp2_with fail
    have hS : Hid (Below w1.heap.size w1 w1.drew) ∧ w1.drew.cell? ⟨w.heap.size, 0, none⟩ = some u1 ∧ w1.drew.cell? ⟨w.heap.size, 1, none⟩ = some u2 := ⟨(Below.refl w1.heap.size w1).drew, HA1.out.c0, HA1.out.c1⟩
    go_region_held3 (fun W => Hid (Below w1.heap.size w1 W) ∧ W.cell? ⟨w.heap.size, 0, none⟩ = some u1 ∧ W.cell? ⟨w.heap.size, 1, none⟩ = some u2)
      (first | assumption | exact hx_keep (by assumption) (by assumption))
      (first
        | (go_at_call 39; ((refine (HP.out w1.drew (H11.out.below (Below.refl w1.heap.size w1).drew) (H21.out.below (Below.refl w1.heap.size w1).drew)).mono ?_); rintro e w5 ⟨v5, vs5, rfl, ho5, hb5⟩; have HO5 := Lib.hid ho5; have HB5 := Lib.hid (((Below.refl w1.heap.size w1).drew).trans hb5); obtain ⟨x5, y5, rfl, _⟩ := ho5.form; clear ho5))
        | (go_at_call 56; ((refine (HM.out w1.heap.size w5.heap.size w5 _ vs5 HO5.out HB5.out.size (H21.out.below HB5.out)).mono ?_); rintro e w6 ⟨v6, es6, rfl, ho6, hb6⟩; have HO6 := Lib.hid ho6; have HB6 := Lib.hid (Below.step HB1.out (Below.step HB5.out hb6)); obtain ⟨x6, y6, hv6, _⟩ := ho6.form; rw [List.length_map] at hv6; subst hv6; clear ho6)))
    all_goals
      go_wp2
      go_ret2
      exact ⟨_, _, rfl, RdML_mono HO6.out.rdML HB1.out.size, HB6.out⟩

def ok_SplitPath (t b : List Int) : Bool := archedB t b
def res_SplitPath (t b : List Int) : List (List Int × List Int) := resP 1 t b
theorem len_SplitPath (t b : List Int) : tot (flatP (res_SplitPath t b)) ≤ 1000000 ∧ ∀ i, i < (flatP (res_SplitPath t b)).length → ((flatP (res_SplitPath t b)).getD i []).length ≤ 1000000 := resP_len _ t b
set_option maxHeartbeats 1000000 in
theorem impl_SplitPath (t b : List Int) (w : World) (u1 u2 : Value) (h1 : Rd w u1 t) (h2 : Rd w u2 b) (m1 : t.length ≤ 1048576) (m2 : b.length ≤ 1048576) :
    Calls Try.prog 32 #[.agg #[u1, u2]] w (GivesMF w (res_SplitPath t b) (ok_SplitPath t b)) := by
  unfold res_SplitPath ok_SplitPath
  have hA := Box2.new 39 w u1 u2
  have B1 : Below w.heap.size w (w.alloc (.cells #[u1, u2] 39)) := Below.alloc1 w _
  have k0 := hA.c0; have k1 := hA.c1
  have HR := Lib.hid (pathBy_any 1 (.inl rfl) t b _ u1 u2 (h1.below B1) (h2.below B1))
  have HB := Lib.hid B1
  generalize resP 1 t b = R at *
  generalize archedB t b = K at *
  clear hA B1 h1 h2 m1 m2
  go_enter Try.func32, Try.ntmps32
  go_wp2_with fail
  refine HR.out.mono ?_
  rintro e w1 ⟨v1, vs1, rfl, ho1, hb1⟩
  obtain ⟨a5, c5, rfl, _⟩ := ho1.rd.form
  have HO1 := Lib.hid ho1; have HB1 := Lib.hid (Below.step HB.out hb1)
  clear ho1 hb1 k0 k1
  go_wp2_with fail
  go_ret2
  exact ⟨_, vs1, rfl, HO1.out.mono (by simp), HB1.out⟩

set_option maxHeartbeats 2000000 in
set_option maxRecDepth 100000 in
theorem spec_SplitPath (t b : List Int) (w : World) (u1 u2 : Value) (h1 : Rd w u1 t) (h2 : Rd w u2 b) (m1 : t.length ≤ 1048576) (m2 : b.length ≤ 1048576) :
    Calls Try.prog 31 #[.agg #[u1, u2]] w (GivesRM w (res_SplitPath t b) (ok_SplitPath t b)) := by
  unfold res_SplitPath ok_SplitPath resP
  have hA := Box2.new 39 w u1 u2
  have B1 : Below w.heap.size w (w.alloc (.cells #[u1, u2] 39)) := Below.alloc1 w _
  have k0 := hA.c0; have k1 := hA.c1
  have HR := Lib.hid (exSome_any t b _ u1 u2 (h1.below B1) (h2.below B1) m1 m2)
  have HB := Lib.hid B1; have HA := Lib.hid hA; have H1 := Lib.hid (h1.below B1); have H2 := Lib.hid (h2.below B1)
  clear hA B1 h1 h2 m1 m2
  cases h : archedB t b with
  | false =>
    rw [h] at HR
    clear h
    simp only [Bool.false_eq_true, if_false]
    go_enter Try.func31, Try.ntmps31
    go_wp2_with fail
    refine HR.out.mono ?_
    rintro e w1 ⟨rfl, hb1⟩
    have HB1 := Lib.hid (Below.step HB.out hb1); clear hb1
    go_wp2
    go_ret2
    exact ⟨_, _, rfl, ((OwnMF.nil _ _).mono HB1.out.size).rd, HB1.out⟩
  | true =>
    rw [h] at HR
    obtain ⟨gt, gb, hl, h0⟩ := arched_good h
    simp only [if_true]
    have HP := Lib.hid (fun (w : World) (h1 : Rd w u1 t) (h2 : Rd w u2 b) => exPath_any t b 1 (.inl rfl) gt gb hl w u1 u2 h1 h2)
    obtain ⟨hp13, hp12⟩ := path_small' b 1 gt
    have hb12 := good_len' gb
    generalize t :: tailF b 1 12 t = R at *
    have HM := Lib.hid (fun lo hi (w : World) v vs ho hlo (h2 : Rd w u2 b) => exMeanders_any R b lo hi w v u2 vs ho hlo h2 hb12 (by omega))
    clear h gt gb hl h0 hp13 hp12 hb12
    go_enter Try.func31, Try.ntmps31
    go_wp2_with fail
    refine HR.out.mono ?_
    rintro e w1 ⟨rfl, hb1⟩
    have HA1 := Lib.hid (HA.out.below hb1)
    have H11 := Lib.hid (H1.out.below hb1); have H21 := Lib.hid (H2.out.below hb1); have HB1 := Lib.hid (Below.step HB.out hb1)
    clear hb1 k0 k1
    go_wp2_with fail
    have hS : Hid (Below w1.heap.size w1 w1.drew) ∧ w1.drew.cell? ⟨w.heap.size, 0, none⟩ = some u1 ∧ w1.drew.cell? ⟨w.heap.size, 1, none⟩ = some u2 := ⟨(Below.refl w1.heap.size w1).drew, HA1.out.c0, HA1.out.c1⟩
    go_region_held3 (fun W => Hid (Below w1.heap.size w1 W) ∧ W.cell? ⟨w.heap.size, 0, none⟩ = some u1 ∧ W.cell? ⟨w.heap.size, 1, none⟩ = some u2)
      (first | assumption | exact hx_keep (by assumption) (by assumption))
      (first
        | (go_at_call 39; ((refine (HP.out w1.drew (H11.out.below (Below.refl w1.heap.size w1).drew) (H21.out.below (Below.refl w1.heap.size w1).drew)).mono ?_); rintro e w5 ⟨v5, vs5, rfl, ho5, hb5⟩; have HO5 := Lib.hid ho5; have HB5 := Lib.hid (((Below.refl w1.heap.size w1).drew).trans hb5); obtain ⟨x5, y5, rfl, _⟩ := ho5.form; clear ho5))
        | (go_at_call 56; ((refine (HM.out w1.heap.size w5.heap.size w5 _ vs5 HO5.out HB5.out.size (H21.out.below HB5.out)).mono ?_); rintro e w6 ⟨v6, es6, rfl, ho6, hb6⟩; have HO6 := Lib.hid ho6; have HB6 := Lib.hid (Below.step HB1.out (Below.step HB5.out hb6)); obtain ⟨x6, y6, hv6, _⟩ := ho6.form; rw [List.length_map] at hv6; subst hv6; clear ho6)))
    all_goals
      go_wp2
      go_ret2
      exact ⟨_, _, rfl, RdML_mono HO6.out.rdML HB1.out.size, HB6.out⟩

end Go.Proofs.Ytfcjgcbjiongpab
