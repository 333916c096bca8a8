/- PathsOf, CyclesOf, CountBoth, IndexOf: program and model. -/
import Derived.Test.YtgaaddfipkdlaaaStrands
import Derived.Test.YtgaaddfipkdlaaaStrandC
import Derived.Test.YtgaaddfipkdlaaaSwTog
import Derived.Test.YtgaaddfipkdlaaaWeedRun
import Derived.Test.YtgaaddfipkdlaaaListsLaw
import Derived.Test.YtgaaddfipkdlaaaWeedCnt2
namespace Go.Proofs.Ytgaaddfipkdlaaa
open Go.RowKit
set_option linter.unusedSimpArgs false
set_option linter.unusedVariables false

theorem curvesFrom_all {n : Nat} {T B : Nat → Nat} : ∀ k, k ≤ n → ∀ c ∈ curvesFrom n T B k, 0 < c.1.length ∧ c.1.length ≤ n
  | 0, _, c, h => by simp [curvesFrom] at h
  | k + 1, hk, c, h => by
    simp only [curvesFrom, List.mem_append] at h
    rcases h with h | h
    · exact curvesFrom_all k (by omega) c h
    · split at h
      · simp only [List.mem_singleton] at h
        subst h
        refine ⟨List.length_pos_of_mem (mem_comp.2 ⟨by omega, .refl k⟩), comp_length k⟩
      · simp at h
theorem sd_filter {n : Nat} {T B : Nat → Nat} {xs : List (Value × List Int × Bool)} (h : xs.map (·.2) = sdL n T B n) (p : Bool) :
    (xs.filter (fun x => x.2.2 == p)).map (·.2.1) = (wanted n T B p).map natL := by
  have e1 : (xs.filter (fun x => x.2.2 == p)).map (·.2.1) = ((xs.map (·.2)).filter (fun y => y.2 == p)).map (·.1) := by
    rw [List.filter_map, List.map_map]; rfl
  rw [e1, h]
  unfold sdL wanted curvesOf
  rw [List.filter_map, List.map_map, List.map_map]; rfl
theorem sd_paths {t b : List Int} {xs : List (Value × List Int × Bool)} (h : xs.map (·.2) = sdL t.sum.toNat (arcN t) (arcN b) t.sum.toNat) : (xs.filter (fun x => x.2.2)).map (·.2.1) = weedWanted t b true := by
  unfold weedWanted; rw [← sd_filter h true]; congr 1; apply List.filter_congr; intro x _; cases x.2.2 <;> rfl
theorem sd_cycles {t b : List Int} {xs : List (Value × List Int × Bool)} (h : xs.map (·.2) = sdL t.sum.toNat (arcN t) (arcN b) t.sum.toNat) : (xs.filter (fun x => !x.2.2)).map (·.2.1) = weedWanted t b false := by
  unfold weedWanted; rw [← sd_filter h false]; congr 1; apply List.filter_congr; intro x _; cases x.2.2 <;> rfl
theorem sd_count {t b : List Int} {xs : List (Value × List Int × Bool)} (h : xs.map (·.2) = sdL t.sum.toNat (arcN t) (arcN b) t.sum.toNat) :
    (xs.filter (fun x => x.2.2)).length = weedPaths t b ∧ xs.length = weedPaths t b + weedCycles t b := by
  refine ⟨by unfold weedPaths; rw [← sd_paths h, List.length_map], ?_⟩
  rw [weed_count]
  have := congrArg List.length h
  rw [List.length_map] at this
  rw [this]; unfold sdL weedCurves curvesOf; rw [List.length_map]
theorem sd_le {t b : List Int} (hw : weedB t b = true) {xs : List (Value × List Int × Bool)} (h : xs.map (·.2) = sdL t.sum.toNat (arcN t) (arcN b) t.sum.toNat) : xs.length ≤ 20 := by
  have h1 := (sd_count h).2; have h2 := weed_count_le t b
  have h3 := (parts_facts (weed_facts hw).1).2.1
  omega
theorem sd_rows {t b : List Int} (hw : weedB t b = true) {xs : List (Value × List Int × Bool)} (h : xs.map (·.2) = sdL t.sum.toNat (arcN t) (arcN b) t.sum.toNat) : ∀ x ∈ xs, 0 < x.2.1.length ∧ x.2.1.length ≤ 1000 := by
  intro x hx
  have hm : x.2 ∈ xs.map (·.2) := List.mem_map.2 ⟨x, hx, rfl⟩
  rw [h] at hm
  unfold sdL at hm
  obtain ⟨c, hc, e⟩ := List.mem_map.1 hm
  have hn := (parts_facts (weed_facts hw).1).2.1
  have hcl := curvesFrom_all _ (Nat.le_refl _) c hc
  rw [← e]
  simp only [natL, List.length_map]
  omega

def ok_PathsOf (t b : List Int) : Bool := weedB t b
noncomputable def res_PathsOf (t b : List Int) : List (List Int) := if weedB t b then weedWanted t b true else []
def ok_CyclesOf (t b : List Int) : Bool := weedB t b
noncomputable def res_CyclesOf (t b : List Int) : List (List Int) := if weedB t b then weedWanted t b false else []
def ok_CountBoth (t b : List Int) : Bool := weedB t b
noncomputable def res1_CountBoth (t b : List Int) : Int := if weedB t b then (weedPaths t b : Nat) else 0
noncomputable def res2_CountBoth (t b : List Int) : Int := if weedB t b then (weedCycles t b : Nat) else 0
def ok_IndexOf (t b : List Int) : Bool := weedB t b
noncomputable def res_IndexOf (t b : List Int) : Int := if weedB t b then 2 * (weedCycles t b : Nat) + (weedPaths t b : Nat) - 1 else 0
theorem ww_bd (t b : List Int) (p : Bool) (hw : weedB t b = true) : tot (weedWanted t b p) ≤ 1000000 ∧ ∀ i, i < (weedWanted t b p).length → ((weedWanted t b p).getD i []).length ≤ 1000000 := by
  have h3 := (parts_facts (weed_facts hw).1).2.1
  have hl : (weedWanted t b p).length ≤ 20 := by
    unfold weedWanted wanted curvesOf
    rw [List.length_map, List.length_map]
    have h1 := List.length_filter_le (fun c : List Nat × Bool => c.2 == p) (curvesFrom t.sum.toNat (arcN t) (arcN b) t.sum.toNat)
    have h2 := curvesFrom_length t.sum.toNat (arcN t) (arcN b) t.sum.toNat
    omega
  have hr : ∀ i, i < (weedWanted t b p).length → ((weedWanted t b p).getD i []).length ≤ 20 := by
    intro i hi
    rw [show (weedWanted t b p).getD i [] = (weedWanted t b p)[i] by simp [List.getD, hi]]
    have hm := List.getElem_mem hi
    generalize (weedWanted t b p)[i] = x at *
    unfold weedWanted wanted curvesOf at hm
    obtain ⟨y, hy, rfl⟩ := List.mem_map.1 hm
    obtain ⟨c, hc, rfl⟩ := List.mem_map.1 hy
    have := curvesFrom_all _ (Nat.le_refl _) c (List.mem_filter.1 hc).1
    simp only [natL, List.length_map]; omega
  exact ⟨by have := tot_le hr; omega, fun i hi => by have := hr i hi; omega⟩
theorem len_PathsOf (t b : List Int) : tot (res_PathsOf t b) ≤ 1000000 ∧ ∀ i, i < (res_PathsOf t b).length → ((res_PathsOf t b).getD i []).length ≤ 1000000 := by
  unfold res_PathsOf
  cases hw : weedB t b with
  | true => rw [if_pos rfl]; exact ww_bd t b true hw
  | false => rw [if_neg (by simp)]; exact ⟨by simp [tot], fun i hi => by simp at hi⟩
theorem len_CyclesOf (t b : List Int) : tot (res_CyclesOf t b) ≤ 1000000 ∧ ∀ i, i < (res_CyclesOf t b).length → ((res_CyclesOf t b).getD i []).length ≤ 1000000 := by
  unfold res_CyclesOf
  cases hw : weedB t b with
  | true => rw [if_pos rfl]; exact ww_bd t b false hw
  | false => rw [if_neg (by simp)]; exact ⟨by simp [tot], fun i hi => by simp at hi⟩
--MARK walks
set_option maxRecDepth 100000 in
set_option maxHeartbeats 4000000 in
theorem where_isPath (t b : List Int) (w : World) (u1 u2 : Value) (h1 : Rd w u1 t) (h2 : Rd w u2 b) :
    Calls Try.prog 36 #[.agg #[u1, u2], .func (.func 37) #[] #[]] w (GivesLL w (if weedB t b = true then weedWanted t b true else []) (weedB t b)) := by
  have B1 := Below.alloc1 w (.cells #[u1, u2] 29)
  have hA := Box2.new 29 w u1 u2
  have k0 := hA.c0; have k1 := hA.c1
  have HB := Lib.hid B1
  have g1 := h1.below B1; have g2 := h2.below B1
  obtain ⟨a1, n1, rfl, _⟩ := h1
  obtain ⟨a2, n2, rfl, _⟩ := h2
  cases e : weedB t b with
  | true =>
    rw [if_pos rfl]
    have HR := Lib.hid (readWeed_yes t b _ _ _ g1 g2 e)
    have HS := Lib.hid (fun W hb => strands_any t b W a1 a2 _ _ _ _ (g1.below hb) (g2.below hb) e)
    have HF := Lib.hid (fun xs hx => sd_paths (t := t) (b := b) (xs := xs) hx)
    have HL := Lib.hid (fun xs hx => sd_le e (xs := xs) hx)
    have HW := Lib.hid (fun xs hx => sd_rows e (xs := xs) hx)
    clear hA B1 e g1 g2
    generalize t.length = l1 at *
    generalize b.length = l2 at *
    generalize sdL t.sum.toNat (arcN t) (arcN b) t.sum.toNat = SD at *
    generalize weedWanted t b true = WW at *
    go_enter Try.func36, Try.ntmps36
    go_wp2_with fail
    refine HR.out.mono ?_
    rintro e w1 ⟨rfl, hb1⟩
    have HX1 := Lib.hid (Below.step HB.out hb1)
    have HSW := Lib.hid (HS.out (w1.alloc (.cells #[.slice a1 l1 n1, .slice a2 l2 n2] 58)) (hb1.alloc hb1.size _))
    have hw := Box2.new 58 w1 (.slice a1 l1 n1) (.slice a2 l2 n2)
    have q0 := hw.c0; have q1 := hw.c1
    clear hb1 hw
    go_wp2_with (first
      | (go_at_call 54; ((with_reducible refine HSW.out.mono ?_); rintro e w2 ⟨v2, xs, rfl, ho2, hx2, hb2⟩; have HO2 := Lib.hid ho2; have HE2 := Lib.hid hx2; obtain ⟨x1, z1, rfl, _⟩ := ho2.form; have HX2 := Lib.hid (Below.step (HX1.out.alloc HX1.out.size _) hb2); clear ho2 hx2 hb2))
      | (go_at_call 53; ((refine (chosenisPath_any xs (by have := HL.out xs HE2.out; omega) _ _ w2 _ HO2.out).mono ?_); rintro e w3 ⟨v3, rfl, ho3, hb3⟩; have HO3 := Lib.hid ho3; obtain ⟨x3, z3, rfl, _⟩ := ho3.form; have HX3 := Lib.hid (Below.step HX2.out hb3); clear ho3 hb3))
      | (go_at_call 52; ((refine (listsSd_any (xs.filter (fun x => x.2.2)) (by have := HL.out xs HE2.out; have := List.length_filter_le (fun x : Value × List Int × Bool => x.2.2) xs; omega) (fun x hx => HW.out xs HE2.out x (List.mem_filter.1 hx).1) _ _ w3 _ HO3.out).mono ?_); rintro e w4 ⟨v4, vs4, rfl, ho4, hb4⟩; have HO4 := Lib.hid ho4; have HX4 := Lib.hid (Below.step HX3.out hb4); have HZ3 := Lib.hid HX3.out.size; clear ho4 hb4)))
    go_ret2
    exact ⟨_, vs4, rfl, by rw [← HF.out xs HE2.out]; exact HO4.out.mono HZ3.out (Nat.le_refl _) (Nat.le_refl _), HX4.out⟩
  | false =>
    rw [if_neg (by simp)]
    have HR := Lib.hid (readWeed_no t b _ _ _ g1 g2 e)
    clear hA B1 e g1 g2
    generalize t.length = l1 at *
    generalize b.length = l2 at *
    go_enter Try.func36, Try.ntmps36
    go_wp2_with fail
    refine HR.out.mono ?_
    rintro e w1 ⟨rfl, hb1⟩
    have HX1 := Lib.hid (Below.step HB.out hb1)
    clear hb1
    go_wp2_with fail
    go_ret2
    exact ⟨_, [], rfl, (OwnLL.nil _ _ (Nat.le_refl _)).mono (Nat.le_trans HX1.out.size (by simp)) (Nat.le_refl _) (Nat.le_refl _), HX1.out.alloc HX1.out.size _⟩
set_option maxRecDepth 100000 in
set_option maxHeartbeats 4000000 in
theorem where_isCycle (t b : List Int) (w : World) (u1 u2 : Value) (h1 : Rd w u1 t) (h2 : Rd w u2 b) :
    Calls Try.prog 36 #[.agg #[u1, u2], .func (.func 38) #[] #[]] w (GivesLL w (if weedB t b = true then weedWanted t b false else []) (weedB t b)) := by
  have B1 := Below.alloc1 w (.cells #[u1, u2] 29)
  have hA := Box2.new 29 w u1 u2
  have k0 := hA.c0; have k1 := hA.c1
  have HB := Lib.hid B1
  have g1 := h1.below B1; have g2 := h2.below B1
  obtain ⟨a1, n1, rfl, _⟩ := h1
  obtain ⟨a2, n2, rfl, _⟩ := h2
  cases e : weedB t b with
  | true =>
    rw [if_pos rfl]
    have HR := Lib.hid (readWeed_yes t b _ _ _ g1 g2 e)
    have HS := Lib.hid (fun W hb => strands_any t b W a1 a2 _ _ _ _ (g1.below hb) (g2.below hb) e)
    have HF := Lib.hid (fun xs hx => sd_cycles (t := t) (b := b) (xs := xs) hx)
    have HL := Lib.hid (fun xs hx => sd_le e (xs := xs) hx)
    have HW := Lib.hid (fun xs hx => sd_rows e (xs := xs) hx)
    clear hA B1 e g1 g2
    generalize t.length = l1 at *
    generalize b.length = l2 at *
    generalize sdL t.sum.toNat (arcN t) (arcN b) t.sum.toNat = SD at *
    generalize weedWanted t b false = WW at *
    go_enter Try.func36, Try.ntmps36
    go_wp2_with fail
    refine HR.out.mono ?_
    rintro e w1 ⟨rfl, hb1⟩
    have HX1 := Lib.hid (Below.step HB.out hb1)
    have HSW := Lib.hid (HS.out (w1.alloc (.cells #[.slice a1 l1 n1, .slice a2 l2 n2] 58)) (hb1.alloc hb1.size _))
    have hw := Box2.new 58 w1 (.slice a1 l1 n1) (.slice a2 l2 n2)
    have q0 := hw.c0; have q1 := hw.c1
    clear hb1 hw
    go_wp2_with (first
      | (go_at_call 54; ((with_reducible refine HSW.out.mono ?_); rintro e w2 ⟨v2, xs, rfl, ho2, hx2, hb2⟩; have HO2 := Lib.hid ho2; have HE2 := Lib.hid hx2; obtain ⟨x1, z1, rfl, _⟩ := ho2.form; have HX2 := Lib.hid (Below.step (HX1.out.alloc HX1.out.size _) hb2); clear ho2 hx2 hb2))
      | (go_at_call 53; ((refine (chosenisCycle_any xs (by have := HL.out xs HE2.out; omega) _ _ w2 _ HO2.out).mono ?_); rintro e w3 ⟨v3, rfl, ho3, hb3⟩; have HO3 := Lib.hid ho3; obtain ⟨x3, z3, rfl, _⟩ := ho3.form; have HX3 := Lib.hid (Below.step HX2.out hb3); clear ho3 hb3))
      | (go_at_call 52; ((refine (listsSd_any (xs.filter (fun x => !x.2.2)) (by have := HL.out xs HE2.out; have := List.length_filter_le (fun x : Value × List Int × Bool => !x.2.2) xs; omega) (fun x hx => HW.out xs HE2.out x (List.mem_filter.1 hx).1) _ _ w3 _ HO3.out).mono ?_); rintro e w4 ⟨v4, vs4, rfl, ho4, hb4⟩; have HO4 := Lib.hid ho4; have HX4 := Lib.hid (Below.step HX3.out hb4); have HZ3 := Lib.hid HX3.out.size; clear ho4 hb4)))
    go_ret2
    exact ⟨_, vs4, rfl, by rw [← HF.out xs HE2.out]; exact HO4.out.mono HZ3.out (Nat.le_refl _) (Nat.le_refl _), HX4.out⟩
  | false =>
    rw [if_neg (by simp)]
    have HR := Lib.hid (readWeed_no t b _ _ _ g1 g2 e)
    clear hA B1 e g1 g2
    generalize t.length = l1 at *
    generalize b.length = l2 at *
    go_enter Try.func36, Try.ntmps36
    go_wp2_with fail
    refine HR.out.mono ?_
    rintro e w1 ⟨rfl, hb1⟩
    have HX1 := Lib.hid (Below.step HB.out hb1)
    clear hb1
    go_wp2_with fail
    go_ret2
    exact ⟨_, [], rfl, (OwnLL.nil _ _ (Nat.le_refl _)).mono (Nat.le_trans HX1.out.size (by simp)) (Nat.le_refl _) (Nat.le_refl _), HX1.out.alloc HX1.out.size _⟩
set_option maxHeartbeats 1000000 in
theorem impl_PathsOf (t b : List Int) (w : World) (u1 u2 : Value) (h1 : Rd w u1 t) (h2 : Rd w u2 b) (m1 : t.length ≤ 1048576) (m2 : b.length ≤ 1048576) :
    Calls Try.prog 12 #[.agg #[u1, u2]] w (GivesLL w (res_PathsOf t b) (ok_PathsOf t b)) := by
  unfold res_PathsOf ok_PathsOf
  have B1 := Below.alloc1 w (.cells #[u1, u2] 29)
  have hA := Box2.new 29 w u1 u2
  have k0 := hA.c0; have k1 := hA.c1
  have HB := Lib.hid B1
  have g1 := h1.below B1; have g2 := h2.below B1
  have HC := Lib.hid (where_isPath t b _ u1 u2 g1 g2)
  obtain ⟨a1, n1, rfl, _⟩ := h1
  obtain ⟨a2, n2, rfl, _⟩ := h2
  clear hA B1 g1 g2 m1 m2
  generalize weedB t b = ok at *
  generalize weedWanted t b true = WW at *
  generalize t.length = l1 at *
  generalize b.length = l2 at *
  generalize hR : (if ok = true then WW else []) = R at *
  clear hR
  go_enter Try.func12, Try.ntmps12
  go_wp2_with fail
  refine HC.out.mono ?_
  rintro e w1 ⟨v, vs, rfl, ho, hb⟩
  obtain ⟨x, c, rfl, _⟩ := ho.form
  have HO := Lib.hid ho; have HX := Lib.hid (Below.step HB.out hb)
  have HZ := Lib.hid (show w.heap.size ≤ (w.alloc (.cells #[.slice a1 l1 n1, .slice a2 l2 n2] 29)).heap.size from HB.out.size)
  clear ho hb
  go_wp2_with fail
  go_ret2
  exact ⟨_, vs, rfl, HO.out.mono HZ.out (Nat.le_refl _) (Nat.le_refl _), HX.out⟩
set_option maxHeartbeats 1000000 in
theorem spec_PathsOf (t b : List Int) (w : World) (u1 u2 : Value) (h1 : Rd w u1 t) (h2 : Rd w u2 b) (m1 : t.length ≤ 1048576) (m2 : b.length ≤ 1048576) :
    Calls Try.prog 10 #[.agg #[u1, u2]] w (GivesLL w (res_PathsOf t b) (ok_PathsOf t b)) := by
  unfold res_PathsOf ok_PathsOf
  have B1 := Below.alloc1 w (.cells #[u1, u2] 29)
  have hA := Box2.new 29 w u1 u2
  have k0 := hA.c0; have k1 := hA.c1
  have HB := Lib.hid B1
  have g1 := h1.below B1; have g2 := h2.below B1
  have hg := swGood_any t b _ u1 u2 g1 g2 m1 m2
  obtain ⟨a1, n1, rfl, _⟩ := h1
  obtain ⟨a2, n2, rfl, _⟩ := h2
  cases e : weedB t b with
  | true =>
    rw [e] at hg
    rw [if_pos rfl]
    have HR := Lib.hid hg
    have HS := Lib.hid (fun W hb => swTogether_any t b true W a1 a2 _ _ _ _ (g1.below hb) (g2.below hb) e)
    have HA := Lib.hid hA
    clear hA B1 e g1 g2 m1 m2 hg
    generalize weedWanted t b true = WW at *
    generalize t.length = l1 at *
    generalize b.length = l2 at *
    go_enter Try.func10, Try.ntmps10
    go_wp2_with fail
    refine HR.out.mono ?_
    rintro e w1 ⟨rfl, hb1⟩
    have HX1 := Lib.hid (Below.step HB.out hb1)
    have hq := HA.out.below hb1
    have q0 := hq.c0; have q1 := hq.c1
    have HSW := Lib.hid (HS.out w1 hb1)
    clear hb1 k0 k1 hq
    go_wp2_with (go_at_call 34; ((with_reducible refine HSW.out.mono ?_); rintro e w2 ⟨v2, vs2, rfl, ho2, hb2⟩; have HO2 := Lib.hid ho2; have HX2 := Lib.hid (Below.step HX1.out hb2); obtain ⟨x2, z2, rfl, _⟩ := ho2.form; clear ho2 hb2))
    go_ret2
    exact ⟨_, vs2, rfl, HO2.out.mono HX1.out.size (Nat.le_refl _) (Nat.le_refl _), HX2.out⟩
  | false =>
    rw [e] at hg
    rw [if_neg (by simp)]
    have HR := Lib.hid hg
    clear hA B1 e g1 g2 m1 m2 hg
    generalize t.length = l1 at *
    generalize b.length = l2 at *
    go_enter Try.func10, Try.ntmps10
    go_wp2_with fail
    refine HR.out.mono ?_
    rintro e w1 ⟨rfl, hb1⟩
    have HX1 := Lib.hid (Below.step HB.out hb1)
    clear hb1
    go_wp2_with fail
    go_ret2
    exact ⟨_, [], rfl, (OwnLL.nil _ _ (Nat.le_refl _)).mono HX1.out.size (Nat.le_refl _) (Nat.le_refl _), HX1.out⟩
set_option maxHeartbeats 1000000 in
theorem impl_CyclesOf (t b : List Int) (w : World) (u1 u2 : Value) (h1 : Rd w u1 t) (h2 : Rd w u2 b) (m1 : t.length ≤ 1048576) (m2 : b.length ≤ 1048576) :
    Calls Try.prog 19 #[.agg #[u1, u2]] w (GivesLL w (res_CyclesOf t b) (ok_CyclesOf t b)) := by
  unfold res_CyclesOf ok_CyclesOf
  have B1 := Below.alloc1 w (.cells #[u1, u2] 29)
  have hA := Box2.new 29 w u1 u2
  have k0 := hA.c0; have k1 := hA.c1
  have HB := Lib.hid B1
  have g1 := h1.below B1; have g2 := h2.below B1
  have HC := Lib.hid (where_isCycle t b _ u1 u2 g1 g2)
  obtain ⟨a1, n1, rfl, _⟩ := h1
  obtain ⟨a2, n2, rfl, _⟩ := h2
  clear hA B1 g1 g2 m1 m2
  generalize weedB t b = ok at *
  generalize weedWanted t b false = WW at *
  generalize t.length = l1 at *
  generalize b.length = l2 at *
  generalize hR : (if ok = true then WW else []) = R at *
  clear hR
  go_enter Try.func19, Try.ntmps19
  go_wp2_with fail
  refine HC.out.mono ?_
  rintro e w1 ⟨v, vs, rfl, ho, hb⟩
  obtain ⟨x, c, rfl, _⟩ := ho.form
  have HO := Lib.hid ho; have HX := Lib.hid (Below.step HB.out hb)
  have HZ := Lib.hid (show w.heap.size ≤ (w.alloc (.cells #[.slice a1 l1 n1, .slice a2 l2 n2] 29)).heap.size from HB.out.size)
  clear ho hb
  go_wp2_with fail
  go_ret2
  exact ⟨_, vs, rfl, HO.out.mono HZ.out (Nat.le_refl _) (Nat.le_refl _), HX.out⟩
set_option maxHeartbeats 1000000 in
theorem spec_CyclesOf (t b : List Int) (w : World) (u1 u2 : Value) (h1 : Rd w u1 t) (h2 : Rd w u2 b) (m1 : t.length ≤ 1048576) (m2 : b.length ≤ 1048576) :
    Calls Try.prog 18 #[.agg #[u1, u2]] w (GivesLL w (res_CyclesOf t b) (ok_CyclesOf t b)) := by
  unfold res_CyclesOf ok_CyclesOf
  have B1 := Below.alloc1 w (.cells #[u1, u2] 29)
  have hA := Box2.new 29 w u1 u2
  have k0 := hA.c0; have k1 := hA.c1
  have HB := Lib.hid B1
  have g1 := h1.below B1; have g2 := h2.below B1
  have hg := swGood_any t b _ u1 u2 g1 g2 m1 m2
  obtain ⟨a1, n1, rfl, _⟩ := h1
  obtain ⟨a2, n2, rfl, _⟩ := h2
  cases e : weedB t b with
  | true =>
    rw [e] at hg
    rw [if_pos rfl]
    have HR := Lib.hid hg
    have HS := Lib.hid (fun W hb => swTogether_any t b false W a1 a2 _ _ _ _ (g1.below hb) (g2.below hb) e)
    have HA := Lib.hid hA
    clear hA B1 e g1 g2 m1 m2 hg
    generalize weedWanted t b false = WW at *
    generalize t.length = l1 at *
    generalize b.length = l2 at *
    go_enter Try.func18, Try.ntmps18
    go_wp2_with fail
    refine HR.out.mono ?_
    rintro e w1 ⟨rfl, hb1⟩
    have HX1 := Lib.hid (Below.step HB.out hb1)
    have hq := HA.out.below hb1
    have q0 := hq.c0; have q1 := hq.c1
    have HSW := Lib.hid (HS.out w1 hb1)
    clear hb1 k0 k1 hq
    go_wp2_with (go_at_call 34; ((with_reducible refine HSW.out.mono ?_); rintro e w2 ⟨v2, vs2, rfl, ho2, hb2⟩; have HO2 := Lib.hid ho2; have HX2 := Lib.hid (Below.step HX1.out hb2); obtain ⟨x2, z2, rfl, _⟩ := ho2.form; clear ho2 hb2))
    go_ret2
    exact ⟨_, vs2, rfl, HO2.out.mono HX1.out.size (Nat.le_refl _) (Nat.le_refl _), HX2.out⟩
  | false =>
    rw [e] at hg
    rw [if_neg (by simp)]
    have HR := Lib.hid hg
    clear hA B1 e g1 g2 m1 m2 hg
    generalize t.length = l1 at *
    generalize b.length = l2 at *
    go_enter Try.func18, Try.ntmps18
    go_wp2_with fail
    refine HR.out.mono ?_
    rintro e w1 ⟨rfl, hb1⟩
    have HX1 := Lib.hid (Below.step HB.out hb1)
    clear hb1
    go_wp2_with fail
    go_ret2
    exact ⟨_, [], rfl, (OwnLL.nil _ _ (Nat.le_refl _)).mono HX1.out.size (Nat.le_refl _) (Nat.le_refl _), HX1.out⟩
theorem results_ct (tmps : Array Value) (w : World) (g : Nat) (v1 v2 : Value) (hg : Box2 62 w g v1 v2) (h2 : tmps.getD 2 undef = .pointer (some ⟨g, 0, none⟩)) :
    (results Try.f40 tmps).run Try.prog w = .ok (.agg #[v1, v2]) w :=
  results_cell_row (by kernel_rfl) tmps w g _ #[v1, v2] _ _ h2 hg Try.underlying62 rfl (by rw [show (Try.prog.info? 62).map (·.size) = some 2 by kernel_rfl]; rfl)
set_option maxRecDepth 100000 in
set_option maxHeartbeats 4000000 in
theorem count_any (t b : List Int) (w : World) (a1 a2 : Option Addr) (n1 c1 n2 c2 : Nat) (h1 : Rd w (.slice a1 n1 c1) t) (h2 : Rd w (.slice a2 n2 c2) b) (e : weedB t b = true) :
    Calls Try.prog 40 #[.agg #[.slice a1 n1 c1, .slice a2 n2 c2]] w fun e w' => e = .returned (.agg #[.int .i64 (weedPaths t b : Nat), .int .i64 (weedCycles t b : Nat)]) ∧ Below w.heap.size w w' := by
  have B1 := Below.step (Below.alloc1 w (.cells #[.slice a1 n1 c1, .slice a2 n2 c2] 58)) (Below.alloc1 _ (.cells #[.int .i64 0, .int .i64 0] 62))
  have hA := Box2.below (Box2.new 58 w (.slice a1 n1 c1) (.slice a2 n2 c2)) (Below.alloc1 _ (.cells #[.int .i64 0, .int .i64 0] 62))
  have hP := Box2.at1 62 w (.cells #[.slice a1 n1 c1, .slice a2 n2 c2] 58) (.int .i64 0) (.int .i64 0)
  have k0 := hA.c0; have k1 := hA.c1
  have HB := Lib.hid B1; have HP := Lib.hid hP
  have HS := Lib.hid (strands_any t b _ a1 a2 _ _ _ _ (h1.below B1) (h2.below B1) e)
  have HC := Lib.hid (fun xs hx => sd_count (t := t) (b := b) (xs := xs) hx)
  have hle := weed_count_le t b
  have h20 := (parts_facts (weed_facts e).1).2.1
  have hb20 : weedPaths t b + weedCycles t b ≤ 20 := by omega
  clear hA B1 hP h1 h2 e hle h20
  generalize sdL t.sum.toNat (arcN t) (arcN b) t.sum.toNat = SD at *
  generalize weedPaths t b = P at *
  generalize weedCycles t b = C at *
  go_enter Try.func40, Try.ntmps40
  go_wp2_with fail
  refine HS.out.mono ?_
  rintro e w1 ⟨v, xs, rfl, ho, hx, hb⟩
  obtain ⟨hc1, hc2⟩ := HC.out xs hx
  obtain ⟨x1, z1, hv, hz1, hz2⟩ := ho.form
  rw [hc2] at hv hz1
  subst hv
  have HO := Lib.hid ho; have HX := Lib.hid (Below.step HB.out hb)
  have HP1 := Lib.hid (HP.out.below hb)
  have HC1 := Lib.hid hc1; have HC2 := Lib.hid hc2
  unfold maxLen at hz2
  clear ho hb hx hc1 hc2
  go_wp2_with (go_at_call 53; ((refine (chosenisPath_any xs (by have := HC2.out; omega) _ _ w1 _ HO.out).mono ?_); rintro e w2 ⟨v2, rfl, ho2, hb2⟩; obtain ⟨x2, z2, hv2, hz3, hz4⟩ := ho2.form; rw [HC1.out] at hv2 hz3; subst hv2; have HX2 := Lib.hid (Below.step HX.out hb2); have HP2 := Lib.hid (HP1.out.below hb2); have r2 := HP2.out.free 0; have r3 := HP2.out.free 1; have r0 := HP2.out.c0; have r1 := HP2.out.c1; unfold maxLen at hz4; clear ho2 hb2))
  exact bodyPost_ret (results_ct _ _ (w.heap.size + 1) _ _ ((HP2.out.set0 _).set1 _) rfl) rfl ⟨by simp; omega, (HX2.out.setCell (p := ⟨w.heap.size + 1, 0, none⟩) (by show _ ≤ _ + 1; omega) _).setCell (p := ⟨w.heap.size + 1, 1, none⟩) (by show _ ≤ _ + 1; omega) _⟩
set_option maxHeartbeats 2000000 in
theorem spec_CountBoth (t b : List Int) (w : World) (u1 u2 : Value) (h1 : Rd w u1 t) (h2 : Rd w u2 b) (m1 : t.length ≤ 1048576) (m2 : b.length ≤ 1048576) :
    Calls Try.prog 20 #[.agg #[u1, u2]] w (GivesC w (res1_CountBoth t b) (res2_CountBoth t b) (ok_CountBoth t b)) := by
  unfold res1_CountBoth res2_CountBoth ok_CountBoth
  have B1 := Below.alloc1 w (.cells #[u1, u2] 29)
  have hA := Box2.new 29 w u1 u2
  have k0 := hA.c0; have k1 := hA.c1
  have HB := Lib.hid B1
  have g1 := h1.below B1; have g2 := h2.below B1
  have hg := swGood_any t b _ u1 u2 g1 g2 m1 m2
  obtain ⟨a1, n1, rfl, _⟩ := h1
  obtain ⟨a2, n2, rfl, _⟩ := h2
  cases e : weedB t b with
  | true =>
    rw [e] at hg
    rw [if_pos rfl, if_pos rfl]
    have HR := Lib.hid hg
    have HT := Lib.hid (fun W hb => (swTogether_any t b true W a1 a2 _ _ _ _ (g1.below hb) (g2.below hb) e).mono (R' := fun e w' => ∃ x z, e = .returned (.slice x (weedPaths t b) z) ∧ Below W.heap.size W w') (fun e w' ⟨v, vs, q1, q2, q3⟩ => by obtain ⟨x, z, rfl, _⟩ := q2.form; exact ⟨x, z, q1, q3⟩))
    have HF := Lib.hid (fun W hb => (swTogether_any t b false W a1 a2 _ _ _ _ (g1.below hb) (g2.below hb) e).mono (R' := fun e w' => ∃ x z, e = .returned (.slice x (weedCycles t b) z) ∧ Below W.heap.size W w') (fun e w' ⟨v, vs, q1, q2, q3⟩ => by obtain ⟨x, z, rfl, _⟩ := q2.form; exact ⟨x, z, q1, q3⟩))
    have HA := Lib.hid hA
    clear hA B1 e g1 g2 m1 m2 hg
    generalize weedPaths t b = P at *
    generalize weedCycles t b = C at *
    generalize t.length = l1 at *
    generalize b.length = l2 at *
    go_enter Try.func20, Try.ntmps20
    go_wp2_with fail
    refine HR.out.mono ?_
    rintro e w1 ⟨rfl, hb1⟩
    have HX1 := Lib.hid (Below.step HB.out hb1)
    have hq := HA.out.below hb1
    have hS : Hid (Below w1.heap.size w1 w1.drew) ∧ w1.drew.cell? ⟨w.heap.size, 0, none⟩ = some (.slice a1 l1 n1) ∧ w1.drew.cell? ⟨w.heap.size, 1, none⟩ = some (.slice a2 l2 n2) := ⟨(Below.refl _ w1).drew, hq.c0, hq.c1⟩
    have HT := Lib.hid (fun (W : World) (hb : Below w1.heap.size w1 W) => HT.out W (Below.trans hb1 (hb.mono hb1.size))); have HF := Lib.hid (fun (W : World) (hb : Below w1.heap.size w1 W) => HF.out W (Below.trans hb1 (hb.mono hb1.size)))
    clear hb1 k0 k1 hq
    go_wp2_with fail
    go_region_held3 (fun w' => Hid (Below w1.heap.size w1 w') ∧ w'.cell? ⟨w.heap.size, 0, none⟩ = some (.slice a1 l1 n1) ∧ w'.cell? ⟨w.heap.size, 1, none⟩ = some (.slice a2 l2 n2))
      (first | assumption | exact s2_keep (by assumption) (by assumption))
      (first
        | (go_at_call 34; ((with_reducible refine (HT.out _ (s2_out (by assumption))).mono ?_); rintro e w2 ⟨x2, z2, rfl, hb2⟩; have hX2 := s2_keep (by assumption) hb2))
        | (go_at_call 34; ((with_reducible refine (HF.out _ (s2_out (by assumption))).mono ?_); rintro e w3 ⟨x3, z3, rfl, hb3⟩; have hX3 := s2_keep (by assumption) hb3)))
    all_goals
      go_wp2
      exact bodyPost_ret (results_three _ (by kernel_rfl) _ _ _ _ _ rfl rfl rfl) rfl ⟨rfl, Below.step HX1.out (s2_out (by assumption))⟩
  | false =>
    rw [e] at hg
    rw [if_neg (by simp), if_neg (by simp)]
    have HR := Lib.hid hg
    clear hA B1 e g1 g2 m1 m2 hg
    generalize t.length = l1 at *
    generalize b.length = l2 at *
    go_enter Try.func20, Try.ntmps20
    go_wp2_with fail
    refine HR.out.mono ?_
    rintro e w1 ⟨rfl, hb1⟩
    go_wp2
    exact bodyPost_ret (results_three _ (by kernel_rfl) _ _ _ _ _ rfl rfl rfl) rfl ⟨rfl, Below.step HB.out hb1⟩
set_option maxHeartbeats 2000000 in
theorem swIndex_any (t b : List Int) (w : World) (a1 a2 : Option Addr) (l1 l2 n1 n2 : Nat) (h1 : Rd w (.slice a1 l1 n1) t) (h2 : Rd w (.slice a2 l2 n2) b) (e : weedB t b = true) :
    Calls Try.prog 41 #[.agg #[.slice a1 l1 n1, .slice a2 l2 n2]] w fun e w' => e = .returned (.int .i64 (2 * (weedCycles t b : Nat) + (weedPaths t b : Nat) - 1)) ∧ Below w.heap.size w w' := by
  have hA := Box2.new 29 w (.slice a1 l1 n1) (.slice a2 l2 n2)
  have B1 := Below.alloc1 w (.cells #[.slice a1 l1 n1, .slice a2 l2 n2] 29)
  have g1 := h1.below B1; have g2 := h2.below B1
  have hle := weed_count_le t b
  have h20 := (parts_facts (weed_facts e).1).2.1
  have hb20 : weedPaths t b + weedCycles t b ≤ 20 := by omega
  have HA := Lib.hid hA; have HB := Lib.hid B1
  have hS : Hid (Below (w.alloc (.cells #[.slice a1 l1 n1, .slice a2 l2 n2] 29)).heap.size (w.alloc (.cells #[.slice a1 l1 n1, .slice a2 l2 n2] 29)) (w.alloc (.cells #[.slice a1 l1 n1, .slice a2 l2 n2] 29)).drew) ∧ (w.alloc (.cells #[.slice a1 l1 n1, .slice a2 l2 n2] 29)).drew.cell? ⟨w.heap.size, 0, none⟩ = some (.slice a1 l1 n1) ∧ (w.alloc (.cells #[.slice a1 l1 n1, .slice a2 l2 n2] 29)).drew.cell? ⟨w.heap.size, 1, none⟩ = some (.slice a2 l2 n2) := ⟨(Below.refl _ _).drew, hA.c0, hA.c1⟩
  have HT := Lib.hid (fun W hb => (swTogether_any t b true W a1 a2 _ _ _ _ (g1.below hb) (g2.below hb) e).mono (R' := fun e w' => ∃ x z, e = .returned (.slice x (weedPaths t b) z) ∧ Below W.heap.size W w') (fun e w' ⟨v, vs, q1, q2, q3⟩ => by obtain ⟨x, z, rfl, _⟩ := q2.form; exact ⟨x, z, q1, q3⟩))
  have HF := Lib.hid (fun W hb => (swTogether_any t b false W a1 a2 _ _ _ _ (g1.below hb) (g2.below hb) e).mono (R' := fun e w' => ∃ x z, e = .returned (.slice x (weedCycles t b) z) ∧ Below W.heap.size W w') (fun e w' ⟨v, vs, q1, q2, q3⟩ => by obtain ⟨x, z, rfl, _⟩ := q2.form; exact ⟨x, z, q1, q3⟩))

  have j1 : (0 : Int) ≤ (weedCycles t b : Int) := by omega
  have j2 : (weedCycles t b : Int) ≤ 20 := by omega
  have j3 : (0 : Int) ≤ (weedPaths t b : Int) := by omega
  have j4 : (weedPaths t b : Int) ≤ 20 := by omega
  have j5 : IntKind.i64.wrap (2 * (weedCycles t b : Int)) = 2 * (weedCycles t b : Int) := IntWalk.i64_in _ (by omega)
  have j6 : IntKind.i64.wrap (2 * (weedCycles t b : Int) + (weedPaths t b : Int)) = 2 * (weedCycles t b : Int) + (weedPaths t b : Int) := IntWalk.i64_in _ (by omega)
  have j7 : IntKind.i64.wrap (2 * (weedCycles t b : Int) + (weedPaths t b : Int) - 1) = 2 * (weedCycles t b : Int) + (weedPaths t b : Int) - 1 := IntWalk.i64_in _ (by omega)
  clear hA B1 e g1 g2 h1 h2 hle h20 hb20
  generalize weedPaths t b = P at *
  generalize weedCycles t b = C at *
  go_enter Try.func41, Try.ntmps41
  go_wp2_with fail
  generalize (w.alloc (.cells #[.slice a1 l1 n1, .slice a2 l2 n2] 29)) = w1 at *
  go_region_held3 (fun w' => Hid (Below w1.heap.size w1 w') ∧ w'.cell? ⟨w.heap.size, 0, none⟩ = some (.slice a1 l1 n1) ∧ w'.cell? ⟨w.heap.size, 1, none⟩ = some (.slice a2 l2 n2))
    (first | assumption | exact s2_keep (by assumption) (by assumption))
    (first
      | (go_at_call 34; ((with_reducible refine (HT.out _ (s2_out (by assumption))).mono ?_); rintro e w2 ⟨x2, z2, rfl, hb2⟩; have hX2 := s2_keep (by assumption) hb2))
      | (go_at_call 34; ((with_reducible refine (HF.out _ (s2_out (by assumption))).mono ?_); rintro e w3 ⟨x3, z3, rfl, hb3⟩; have hX3 := s2_keep (by assumption) hb3)))
  all_goals
    go_wp2
    go_ret
    exact ⟨rfl, Below.step HB.out (s2_out (by assumption))⟩
set_option maxHeartbeats 2000000 in
theorem spec_IndexOf (t b : List Int) (w : World) (u1 u2 : Value) (h1 : Rd w u1 t) (h2 : Rd w u2 b) (m1 : t.length ≤ 1048576) (m2 : b.length ≤ 1048576) :
    Calls Try.prog 22 #[.agg #[u1, u2]] w (GivesN w (res_IndexOf t b) (ok_IndexOf t b)) := by
  unfold res_IndexOf ok_IndexOf
  have B1 := Below.alloc1 w (.cells #[u1, u2] 29)
  have hA := Box2.new 29 w u1 u2
  have k0 := hA.c0; have k1 := hA.c1
  have HB := Lib.hid B1
  have g1 := h1.below B1; have g2 := h2.below B1
  have hg := swGood_any t b _ u1 u2 g1 g2 m1 m2
  obtain ⟨a1, n1, rfl, _⟩ := h1
  obtain ⟨a2, n2, rfl, _⟩ := h2
  cases e : weedB t b with
  | true =>
    rw [e] at hg
    rw [if_pos rfl]
    have HR := Lib.hid hg
    have HS := Lib.hid (fun W hb => swIndex_any t b W a1 a2 _ _ _ _ (g1.below hb) (g2.below hb) e)
    have HA := Lib.hid hA
    clear hA B1 e g1 g2 m1 m2 hg
    generalize (2 * (weedCycles t b : Int) + (weedPaths t b : Int) - 1) = X at *
    generalize t.length = l1 at *
    generalize b.length = l2 at *
    go_enter Try.func22, Try.ntmps22
    go_wp2_with fail
    refine HR.out.mono ?_
    rintro e w1 ⟨rfl, hb1⟩
    have HX1 := Lib.hid (Below.step HB.out hb1)
    have hq := HA.out.below hb1
    have q0 := hq.c0; have q1 := hq.c1
    have HSW := Lib.hid (HS.out w1 hb1)
    clear hb1 k0 k1 hq
    go_wp2_with (go_at_call 41; ((with_reducible refine HSW.out.mono ?_); rintro e w2 ⟨rfl, hb2⟩; have HX2 := Lib.hid (Below.step HX1.out hb2); clear hb2))
    go_ret2
    exact ⟨rfl, HX2.out⟩
  | false =>
    rw [e] at hg
    rw [if_neg (by simp)]
    have HR := Lib.hid hg
    clear hA B1 e g1 g2 m1 m2 hg
    generalize t.length = l1 at *
    generalize b.length = l2 at *
    go_enter Try.func22, Try.ntmps22
    go_wp2_with fail
    refine HR.out.mono ?_
    rintro e w1 ⟨rfl, hb1⟩
    have HX1 := Lib.hid (Below.step HB.out hb1)
    clear hb1
    go_wp2_with fail
    go_ret2
    exact ⟨rfl, HX1.out⟩
theorem weed_zero : weedPaths [] [] = 0 ∧ weedCycles [] [] = 0 := by
  have h := weed_count_le [] []
  simp at h; omega
set_option maxHeartbeats 2000000 in
theorem impl_CountBoth (t b : List Int) (w : World) (u1 u2 : Value) (h1 : Rd w u1 t) (h2 : Rd w u2 b) (m1 : t.length ≤ 1048576) (m2 : b.length ≤ 1048576) :
    Calls Try.prog 21 #[.agg #[u1, u2]] w (GivesC w (res1_CountBoth t b) (res2_CountBoth t b) (ok_CountBoth t b)) := by
  unfold res1_CountBoth res2_CountBoth ok_CountBoth
  have B1 := Below.alloc1 w (.cells #[u1, u2] 29)
  have hA := Box2.new 29 w u1 u2
  have k0 := hA.c0; have k1 := hA.c1
  have HB := Lib.hid B1
  have g1 := h1.below B1; have g2 := h2.below B1
  obtain ⟨a1, n1, rfl, _⟩ := h1
  obtain ⟨a2, n2, rfl, _⟩ := h2
  cases e : weedB t b with
  | true =>
    rw [if_pos rfl, if_pos rfl]
    have HR := Lib.hid (readWeed_yes t b _ _ _ g1 g2 e)
    have HS := Lib.hid (fun W hb => count_any t b W a1 a2 _ _ _ _ (g1.below hb) (g2.below hb) e)
    clear hA B1 e g1 g2 m1 m2
    generalize weedPaths t b = P at *
    generalize weedCycles t b = C at *
    generalize t.length = l1 at *
    generalize b.length = l2 at *
    go_enter Try.func21, Try.ntmps21
    go_wp2_with fail
    refine HR.out.mono ?_
    rintro e w1 ⟨rfl, hb1⟩
    have HX1 := Lib.hid (Below.step HB.out hb1)
    have HSW := Lib.hid (HS.out (w1.alloc (.cells #[.slice a1 l1 n1, .slice a2 l2 n2] 58)) (hb1.alloc hb1.size _))
    have hw := Box2.new 58 w1 (.slice a1 l1 n1) (.slice a2 l2 n2)
    have q0 := hw.c0; have q1 := hw.c1
    clear hb1 hw
    go_wp2_with (go_at_call 40; ((with_reducible refine HSW.out.mono ?_); rintro e w2 ⟨rfl, hb2⟩; have HX2 := Lib.hid (Below.step (HX1.out.alloc HX1.out.size _) hb2); have hc := Box2.new 62 w2 (.int .i64 P) (.int .i64 C); have r0 := hc.c0; have r1 := hc.c1; clear hb2 hc))
    go_quiet (fail)
    go_wp2
    exact bodyPost_ret (results_three _ (by kernel_rfl) _ _ _ _ _ rfl rfl rfl) rfl ⟨rfl, Below.drewN (HX2.out.alloc HX2.out.size _) _⟩
  | false =>
    rw [if_neg (by simp), if_neg (by simp)]
    have HR := Lib.hid (readWeed_no t b _ _ _ g1 g2 e)
    have hs := fun W => count_any [] [] W none none 0 0 0 0 ((Own.nil 0 _).rd) ((Own.nil 0 _).rd) (show weedB [] [] = true from rfl)
    rw [weed_zero.1, weed_zero.2] at hs
    have HS := Lib.hid hs
    clear hA B1 e g1 g2 m1 m2 hs
    generalize t.length = l1 at *
    generalize b.length = l2 at *
    go_enter Try.func21, Try.ntmps21
    go_wp2_with fail
    refine HR.out.mono ?_
    rintro e w1 ⟨rfl, hb1⟩
    have HX1 := Lib.hid (Below.step HB.out hb1)
    have HSW := Lib.hid (HS.out (w1.alloc (.cells #[.slice none 0 0, .slice none 0 0] 58)))
    have hw := Box2.new 58 w1 (.slice none 0 0) (.slice none 0 0)
    have q0 := hw.c0; have q1 := hw.c1
    clear hb1 hw
    go_wp2_with (go_at_call 40; ((refine HSW.out.mono ?_); rintro e w2 ⟨rfl, hb2⟩; have HX2 := Lib.hid (Below.step (HX1.out.alloc HX1.out.size _) hb2); have hc := Box2.new 62 w2 (.int .i64 ((0 : Nat) : Int)) (.int .i64 ((0 : Nat) : Int)); have r0 := hc.c0; have r1 := hc.c1; clear hb2 hc))
    go_quiet (fail)
    go_wp2
    exact bodyPost_ret (results_three _ (by kernel_rfl) _ _ _ _ _ rfl rfl rfl) rfl ⟨rfl, Below.drewN (HX2.out.alloc HX2.out.size _) _⟩
set_option maxHeartbeats 1000000 in
theorem countIndex_any (P C : Nat) (hb : P + C ≤ 20) (w : World) : Calls Try.prog 42 #[.agg #[.int .i64 P, .int .i64 C]] w fun e w' => e = .returned (.int .i64 (2 * (C : Int) + (P : Int) - 1)) ∧ Below w.heap.size w w' := by
  have hc := Box2.new 62 w (.int .i64 P) (.int .i64 C)
  have r0 := hc.c0; have r1 := hc.c1
  clear hc
  go_enter Try.func42, Try.ntmps42
  go_wp2
  go_ret
  exact ⟨rfl, Below.alloc1 _ _⟩
set_option maxHeartbeats 2000000 in
theorem impl_IndexOf (t b : List Int) (w : World) (u1 u2 : Value) (h1 : Rd w u1 t) (h2 : Rd w u2 b) (m1 : t.length ≤ 1048576) (m2 : b.length ≤ 1048576) :
    Calls Try.prog 23 #[.agg #[u1, u2]] w (GivesN w (res_IndexOf t b) (ok_IndexOf t b)) := by
  unfold res_IndexOf ok_IndexOf
  have B1 := Below.alloc1 w (.cells #[u1, u2] 29)
  have hA := Box2.new 29 w u1 u2
  have k0 := hA.c0; have k1 := hA.c1
  have HB := Lib.hid B1
  have g1 := h1.below B1; have g2 := h2.below B1
  obtain ⟨a1, n1, rfl, _⟩ := h1
  obtain ⟨a2, n2, rfl, _⟩ := h2
  cases e : weedB t b with
  | true =>
    rw [if_pos rfl]
    have HR := Lib.hid (readWeed_yes t b _ _ _ g1 g2 e)
    have HS := Lib.hid (fun W hb => count_any t b W a1 a2 _ _ _ _ (g1.below hb) (g2.below hb) e)
    have hle := weed_count_le t b
    have h20 := (parts_facts (weed_facts e).1).2.1
    have HCI := Lib.hid (fun w => countIndex_any (weedPaths t b) (weedCycles t b) (by omega) w)
    clear hA B1 e g1 g2 m1 m2 hle h20
    generalize weedPaths t b = P at *
    generalize weedCycles t b = C at *
    generalize t.length = l1 at *
    generalize b.length = l2 at *
    go_enter Try.func23, Try.ntmps23
    go_wp2_with fail
    refine HR.out.mono ?_
    rintro e w1 ⟨rfl, hb1⟩
    have HX1 := Lib.hid (Below.step HB.out hb1)
    have HSW := Lib.hid (HS.out (w1.alloc (.cells #[.slice a1 l1 n1, .slice a2 l2 n2] 58)) (hb1.alloc hb1.size _))
    have hw := Box2.new 58 w1 (.slice a1 l1 n1) (.slice a2 l2 n2)
    have q0 := hw.c0; have q1 := hw.c1
    clear hb1 hw
    go_wp2_with (first
      | (go_at_call 40; ((with_reducible refine HSW.out.mono ?_); rintro e w2 ⟨rfl, hb2⟩; have HX2 := Lib.hid (Below.step (HX1.out.alloc HX1.out.size _) hb2); clear hb2))
      | (go_at_call 42; ((with_reducible refine (HCI.out _).mono ?_); rintro e w3 ⟨rfl, hb3⟩; have HX3 := Lib.hid (Below.step HX2.out hb3); clear hb3)))
    go_ret2
    exact ⟨rfl, HX3.out⟩
  | false =>
    rw [if_neg (by simp)]
    have HR := Lib.hid (readWeed_no t b _ _ _ g1 g2 e)
    clear hA B1 e g1 g2 m1 m2
    generalize t.length = l1 at *
    generalize b.length = l2 at *
    go_enter Try.func23, Try.ntmps23
    go_wp2_with fail
    refine HR.out.mono ?_
    rintro e w1 ⟨rfl, hb1⟩
    have HX1 := Lib.hid (Below.step HB.out hb1)
    clear hb1
    go_wp2_with fail
    go_ret2
    exact ⟨rfl, HX1.out.alloc HX1.out.size _⟩
end Go.Proofs.Ytgaaddfipkdlaaa
