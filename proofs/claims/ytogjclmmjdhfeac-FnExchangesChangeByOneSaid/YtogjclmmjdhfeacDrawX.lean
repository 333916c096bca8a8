/- big told in full, components counted by the laws, and what is drawn for the law on moved joins. -/
/- What is drawn for the law on whole pairs. -/
/- What is drawn for the law on exchanges. -/
import Derived.Test.YtogjclmmjdhfeacDrawC
import Derived.Test.YtogjclmmjdhfeacComps
import Derived.Test.YtogjclmmjdhfeacExAt
import Derived.Test.YtogjclmmjdhfeacCmps
namespace Go.Proofs.Ytogjclmmjdhfeac
open Go.RowKit
set_option linter.unusedSimpArgs false
set_option linter.unusedVariables false

/-- .. and where it says no, both are short -/
def BigOut (n1 n2 : Nat) (w : World) (e : Ending) (w' : World) : Prop := ∃ b : Bool, e = .returned (.bool b) ∧ w' = w ∧ (b = false → n1 ≤ 1048576 ∧ n2 ≤ 1048576)
set_option maxHeartbeats 1000000 in
theorem big_yes (a1 : Option Addr) (n1 c1 : Nat) (l1 : List Int) (a2 : Option Addr) (n2 c2 : Nat) (l2 : List Int) (w : World) (y1 : RdY w (.slice a1 n1 c1) l1) (y2 : RdY w (.slice a2 n2 c2) l2) :
    Calls Try.prog 5 #[.slice a1 n1 c1, .slice a2 n2 c2] w (BigOut n1 n2 w) := by
  have h1 : n1 ≤ 9223372036854775807 := by
    obtain ⟨a, c, e, h2, h3, _⟩ := y1
    simp only [Value.slice.injEq] at e
    unfold maxLen at h3; omega
  have h2 : n2 ≤ 9223372036854775807 := by
    obtain ⟨a, c, e, h2, h3, _⟩ := y2
    simp only [Value.slice.injEq] at e
    unfold maxLen at h3; omega
  clear y1 y2
  go_enter Try.func5, Try.ntmps5
  by_cases h : n1 ≤ 1048576
  · have hw : IntKind.i64.wrap (1048576 - (n1 : Int)) = 1048576 - (n1 : Int) := IntWalk.i64_in _ (by omega)
    have hg : ¬ (1048576 : Int) < (n1 : Int) := by omega
    by_cases h3 : n2 ≤ 1048576
    · go_wp2
      go_ret
      exact ⟨_, rfl, rfl, fun _ => ⟨h, h3⟩⟩
    · have hn : 1048576 - (n1 : Int) < (n2 : Int) := by omega
      go_wp2
      go_ret
      exact ⟨true, rfl, rfl, fun e => by cases e⟩
  · have hg : (1048576 : Int) < (n1 : Int) := by omega
    go_wp2
    go_ret
    exact ⟨true, rfl, rfl, fun e => by cases e⟩
set_option maxHeartbeats 1000000 in
theorem sCount_any (a b : List Int) (u1 u2 : Value) (w : World) (h1 : Rd w u1 a) (h2 : Rd w u2 b) (m1 : a.length ≤ 1048576) (m2 : b.length ≤ 1048576) :
    Calls Try.prog 36 #[u1, u2] w fun e w' => e = .returned (.int .i64 (res_ComponentsOf a b)) ∧ Below w.heap.size w w' := by
  have HC := Lib.hid (impl_ComponentsOf a b w u1 u2 h1 h2 m1 m2)
  obtain ⟨a1, c1, rfl, _⟩ := h1
  obtain ⟨a2, c2, rfl, _⟩ := h2
  go_enter Try.func36, Try.ntmps36
  go_wp2_with fail
  refine HC.out.mono ?_
  rintro e w1 ⟨rfl, hb⟩
  go_wp2_with fail
  go_ret
  exact ⟨rfl, hb⟩

end Go.Proofs.Ytogjclmmjdhfeac

namespace Go.Proofs.Ytogjclmmjdhfeac
open Go.RowKit
set_option linter.unusedSimpArgs false
set_option linter.unusedVariables false


end Go.Proofs.Ytogjclmmjdhfeac

namespace Go.Proofs.Ytogjclmmjdhfeac
open Go.RowKit
set_option linter.unusedSimpArgs false
set_option linter.unusedVariables false

set_option maxHeartbeats 2000000 in
set_option maxRecDepth 100000 in
theorem sHas_yes (b1 e1 : Nat) (v1 v2 : Value) (vs : List Value) (ls : List (List Int)) (l : List Int) (w : World) (h1 : OwnLL b1 e1 w v1 vs ls) (h2 : Rd w v2 l) (hm : l ∈ ls) :
    Calls Try.prog 35 #[v1, v2] w (Good w) := by
  obtain ⟨a1, c1, rfl, hlc1, hcm1⟩ := h1.form
  unfold maxLen at hcm1
  obtain ⟨n, hn⟩ : ∃ n, n = ls.length := ⟨_, rfl⟩
  rw [← hn] at hlc1 h1 ⊢
  obtain ⟨i0, hi0, he0⟩ := List.getElem_of_mem hm
  have hget : ls.getD i0 [] = l := by simp [List.getD, hi0, he0]
  have HN := Lib.hid hn; have H1 := Lib.hid h1; have H2 := Lib.hid h2; have HG := Lib.hid hget
  have hi1 : i0 < n := by omega
  obtain ⟨qa, qc, hv, _⟩ := h2
  subst hv
  clear hn h1 hm he0 hget hi0
  go_enter Try.func35, Try.ntmps35
  go_wp2
  go_loopw [9] (fun i wr => ∃ j q : Nat, j ≤ i0 ∧ i = .int .i64 (j : Int) ∧ wr = w.drewN q) (fun i _ => n - (intOf i).toNat)
  case atStart => exact ⟨0, 0, by omega, rfl, rfl⟩
  case round =>
    obtain ⟨j, q, hj, rfl, rfl⟩ := hrel
    have hjl : j < ls.length := by rw [← HN.out]; omega
    obtain ⟨g1, rfl, _, _, hcell1, _⟩ := H1.out.at (by omega)
    have hc1 := hcell1 j hjl
    have hrow := (H1.out.own j hjl).rd
    have hlt : (j : Int) < (n : Int) := by omega
    have hwk : IntKind.i64.wrap ((j : Int) + 1) = (j : Int) + 1 := IntWalk.i64_in _ (by omega)
    obtain ⟨p, hp⟩ : ∃ p, ls.getD j [] = p := ⟨_, rfl⟩
    rw [hp] at hrow
    have HP := Lib.hid hp
    have HR := Lib.hid hrow
    obtain ⟨sa, sc, e2, _⟩ := hrow
    rw [e2] at hc1 HR
    clear hcell1 hp e2
    have hq : (w.drewN q).cell? ⟨g1, j, none⟩ = some (.slice sa p.length sc) := hc1
    by_cases hd : l = p
    · have HC := Lib.hid (sSame_run _ _ l p true (w.drewN q) (Rd.drewN H2.out q) (Rd.drewN HR.out q) (decide_eq_true hd))
      clear hd
      go_wp2_with fail
      refine HC.out.mono ?_
      rintro e w2 ⟨rfl, r, rfl⟩
      go_wp2_with fail
      go_ret
      exact ⟨rfl, by first | exact below_drewN (Below.refl _ _) _ | exact below_drewN (below_drewN (Below.refl _ _) _) _⟩
    · have HC := Lib.hid (sSame_run _ _ l p false (w.drewN q) (Rd.drewN H2.out q) (Rd.drewN HR.out q) (decide_eq_false hd))
      have hne : j ≠ i0 := fun e => hd (by rw [← HP.out, e]; exact HG.out.symm)
      have HNE := Lib.hid hne
      clear hd hne
      go_wp2_with fail
      refine HC.out.mono ?_
      rintro e w2 ⟨rfl, r, rfl⟩
      go_wp2_with fail
      go_roundw
      case rel => exact ⟨j + 1, q + r, by have := HNE.out; omega, by go_num, by first | rfl | exact World.drewN_drewN ..⟩
      case measure => simp [intOf]; omega
set_option maxHeartbeats 8000000 in
set_option maxRecDepth 100000 in
theorem drawExchangeAt_any (v : Value) (l : List Int) (w : World) (hr : RdY w v l) : Calls Try.prog 21 #[v] w (DrawnLII w 14 (fun x => -1 ≤ x ∧ x ≤ 20)) := by
  have HR0 := Lib.hid (hr.below (Below.alloc1 w (.cells #[v, .int .i64 0, .int .u64 0] 66)))
  have HRD := Lib.hid (fun K w1 (ho : CurOut (w.alloc (.cells #[v, .int .i64 0, .int .u64 0] 66)) w.heap.size v K w1) => CurOut.rd HR0.out (cur_new w v) ho)
  have HO : Hid (CurOut (w.alloc (.cells #[v, .int .i64 0, .int .u64 0] 66)) w.heap.size v 0 (w.alloc (.cells #[v, .int .i64 0, .int .u64 0] 66))) := CurOut.refl (k := 0) (cur_new w v)
  have HIF : Hid (∀ b : Bool, b = true ∨ b = false) := fun b => by cases b <;> simp
  obtain ⟨y1, y2, rfl, _⟩ := hr
  go_enter Try.func21, Try.ntmps21
  go_wp2_with fail
  refine (system_any w.heap.size 0 6 _ l _ HO.out.1 (HRD.out _ _ HO.out) (by omega) (by omega)).mono ?_
  rintro e w1 ⟨v_p, l_p, rfl, hq, hl_p, ho⟩
  obtain ⟨pa, pc, rfl, pc1, pc2⟩ := hq.form; unfold maxLen at pc2
  have O_p : Hid (Own (w.heap.size + 1) w1 _ _) := hq.mono (by have h9 := HO.out.2.size; simp only [World.size_alloc] at h9; (try simp only [World.size_alloc]); omega); clear hq
  replace HO := Lib.hid (CurOut.mono (HO.out.trans ho) (show _ ≤ 40 by omega)); clear ho
  have hw1 : IntKind.i64.wrap ((l_p.length : Int) + 2) = (l_p.length : Int) + 2 := IntWalk.i64_in _ (by omega)
  go_wp2_with fail
  refine (ahGood_any _ l_p _ O_p.out.rd (by omega)).mono ?_
  rintro e w50 ⟨rfl, hb⟩
  replace O_p := Lib.hid (O_p.out.below hb); replace HO := Lib.hid (CurOut.below HO.out hb)
  clear hb
  cases hg : goodB l_p with
  | false =>
    go_wp2_with fail
    refine (pick_any w.heap.size 40 ((l_p.length : Int) + 2) _ l _ HO.out.1 (HRD.out _ _ HO.out) (by omega) (by omega)).mono ?_
    rintro e w51 ⟨x, rfl, hx, ho⟩
    replace O_p := Lib.hid (CurOut.own ho O_p.out (Nat.lt_succ_self _))
    replace HO := Lib.hid (CurOut.mono (HO.out.trans ho) (show _ ≤ 42 by omega)); clear ho
    have Hx : Hid (0 ≤ x ∧ x ≤ 16) := by obtain ⟨h0, h1⟩ := hx; unfold Hid; rcases h1 with h1 | h1 <;> omega
    clear hx
    have hw2 : IntKind.i64.wrap (x - 1) = x - 1 := IntWalk.i64_in _ (by have := Hx.out; omega)
    go_wp2_with fail
    refine (pick_any w.heap.size 42 ((l_p.length : Int) + 2) _ l _ HO.out.1 (HRD.out _ _ HO.out) (by omega) (by omega)).mono ?_
    rintro e w52 ⟨y, rfl, hy, ho⟩
    replace O_p := Lib.hid (CurOut.own ho O_p.out (Nat.lt_succ_self _))
    replace HO := Lib.hid (CurOut.mono (HO.out.trans ho) (show _ ≤ 44 by omega)); clear ho
    have Hy : Hid (0 ≤ y ∧ y ≤ 16) := by obtain ⟨h0, h1⟩ := hy; unfold Hid; rcases h1 with h1 | h1 <;> omega
    clear hy
    have hw3 : IntKind.i64.wrap (y - 1) = y - 1 := IntWalk.i64_in _ (by have := Hy.out; omega)
    go_wp2_with fail
    go_ret3
    exact ⟨_, l_p, x - 1, y - 1, rfl, O_p.out.mono (by omega), hl_p, by have := Hx.out; omega, by have := Hy.out; omega, CurOut.toBelow HO.out⟩
  | true =>
    have HG := Lib.hid hg
    clear hg
    go_wp2_with fail
    refine (exPairs_any l_p _ _ O_p.out.rd HG.out).mono ?_
    rintro e w60 ⟨v6, vs6, rfl, ho6, hb⟩
    obtain ⟨x1, x2, rfl, hx1, hx2⟩ := ho6.form
    unfold maxLen at hx2
    replace O_p := Lib.hid (O_p.out.below hb); replace HO := Lib.hid (CurOut.below HO.out hb)
    clear hb ho6
    have HLP := Lib.hid (ex_facts HG.out).2.2.2
    by_cases hz : 0 < (pairsL l_p).length
    · have hz2 : (0 : Int) < ((pairsL l_p).length : Int) := by omega
      go_wp2_with fail
      refine (one_any w.heap.size 40 3 _ l _ HO.out.1 (HRD.out _ _ HO.out) (by omega) (by omega)).mono ?_
      rintro e w61 ⟨b, rfl, ho⟩
      replace O_p := Lib.hid (CurOut.own ho O_p.out (Nat.lt_succ_self _))
      replace HO := Lib.hid (CurOut.mono (HO.out.trans ho) (show _ ≤ 42 by omega)); clear ho
      rcases HIF.out b with rfl | rfl
      · go_wp2_with fail
        refine (pick_any w.heap.size 42 ((l_p.length : Int) + 2) _ l _ HO.out.1 (HRD.out _ _ HO.out) (by omega) (by omega)).mono ?_
        rintro e w62 ⟨x, rfl, hx, ho⟩
        replace O_p := Lib.hid (CurOut.own ho O_p.out (Nat.lt_succ_self _))
        replace HO := Lib.hid (CurOut.mono (HO.out.trans ho) (show _ ≤ 44 by omega)); clear ho
        have Hx : Hid (0 ≤ x ∧ x ≤ 16) := by obtain ⟨h0, h1⟩ := hx; unfold Hid; rcases h1 with h1 | h1 <;> omega
        clear hx
        have hw2 : IntKind.i64.wrap (x - 1) = x - 1 := IntWalk.i64_in _ (by have := Hx.out; omega)
        go_wp2_with fail
        refine (pick_any w.heap.size 44 ((l_p.length : Int) + 2) _ l _ HO.out.1 (HRD.out _ _ HO.out) (by omega) (by omega)).mono ?_
        rintro e w63 ⟨y, rfl, hy, ho⟩
        replace O_p := Lib.hid (CurOut.own ho O_p.out (Nat.lt_succ_self _))
        replace HO := Lib.hid (CurOut.mono (HO.out.trans ho) (show _ ≤ 46 by omega)); clear ho
        have Hy : Hid (0 ≤ y ∧ y ≤ 16) := by obtain ⟨h0, h1⟩ := hy; unfold Hid; rcases h1 with h1 | h1 <;> omega
        clear hy
        have hw3 : IntKind.i64.wrap (y - 1) = y - 1 := IntWalk.i64_in _ (by have := Hy.out; omega)
        go_wp2_with fail
        go_ret3
        exact ⟨_, l_p, x - 1, y - 1, rfl, O_p.out.mono (by omega), hl_p, by have := Hx.out; omega, by have := Hy.out; omega, CurOut.toBelow HO.out⟩
      · go_wp2_with fail
        refine (exPairs_any l_p _ _ O_p.out.rd HG.out).mono ?_
        rintro e w70 ⟨v7, vs7, rfl, ho7, hb⟩
        obtain ⟨z1, z2, rfl, hz1, hz3⟩ := ho7.form
        unfold maxLen at hz3
        have HSZ := Lib.hid (show w.heap.size < w61.heap.size by have := HO.out.2.size; simp at this; omega)
        replace O_p := Lib.hid (O_p.out.below hb); replace HO := Lib.hid (CurOut.below HO.out hb)
        have HO7 := Lib.hid ho7
        clear hb ho7
        go_wp2_with fail
        refine (pick_any w.heap.size 42 ((pairsL l_p).length : Int) _ l _ (HO.out.1.mono (by omega)) (HRD.out _ _ HO.out) (by omega) (by have := HLP.out; omega)).mono ?_
        rintro e w71 ⟨k, rfl, ⟨hk0, hk1⟩, ho⟩
        obtain ⟨k, rfl⟩ := Int.eq_ofNat_of_zero_le hk0
        have hk : k < (pairsL l_p).length := by rcases hk1 with hk1 | hk1 <;> omega
        have HO8 := Lib.hid (HO7.out.grown ho.2 (fun q hq => by simp at hq; have := HSZ.out; omega))
        replace O_p := Lib.hid (CurOut.own ho O_p.out (Nat.lt_succ_self _))
        replace HO := Lib.hid (HO.out.trans ho)
        clear ho hk0 hk1 HO7
        obtain ⟨gc, rfl, _, _, hcell, _⟩ := HO8.out.at hz
        have hc5 := hcell k hk
        have hki : (k : Int) < ((pairsL l_p).length : Int) := by omega
        have hrow := HO8.out.own k hk
        have hmem : (pairsL l_p).getD k [] ∈ pairsL l_p := by simp [List.getD, hk]
        obtain ⟨i, j, hij, hj, _, e5⟩ := pairs_mem.1 hmem
        rw [e5] at hrow
        obtain ⟨rg, rc, e6⟩ : ∃ rg rc, rowV vs7 k = .slice (some ⟨rg, 0, none⟩) 2 rc := by
          rcases hrow.shape with ⟨_, h⟩ | ⟨g2, c2, h, _⟩
          · cases h
          · exact ⟨g2, c2, h⟩
        rw [e6] at hc5 hrow
        have r0 := hrow.cellAt 0 (by simp)
        have r1 := hrow.cellAt 1 (by simp)
        simp only [List.getD_cons_zero, List.getD_cons_succ] at r0 r1
        have HB5 := Lib.hid hij; have HB6 := Lib.hid hj
        have hd0 : w71.drew.cell? ⟨rg, 0, none⟩ = some (.int .i64 (i : Int)) := r0
        have hd1 : w71.drew.cell? ⟨rg, 1, none⟩ = some (.int .i64 (j : Int)) := r1
        clear hcell hrow hmem e5 e6 hij hj
        go_wp2_with fail
        go_quiet (fail)
        go_wp2_with fail
        go_ret3
        exact ⟨_, l_p, (i : Int), (j : Int), rfl, (O_p.out.below (below_drewN (Below.refl _ _) _)).mono (by omega), hl_p, by have := HB5.out; have := HB6.out; omega, by have := HB5.out; have := HB6.out; omega, CurOut.toBelow (CurOut.below HO.out (below_drewN (Below.refl _ _) _))⟩
    · have hz2 : ¬ (0 : Int) < ((pairsL l_p).length : Int) := by omega
      go_wp2_with fail
      refine (pick_any w.heap.size 40 ((l_p.length : Int) + 2) _ l _ HO.out.1 (HRD.out _ _ HO.out) (by omega) (by omega)).mono ?_
      rintro e w61 ⟨x, rfl, hx, ho⟩
      replace O_p := Lib.hid (CurOut.own ho O_p.out (Nat.lt_succ_self _))
      replace HO := Lib.hid (CurOut.mono (HO.out.trans ho) (show _ ≤ 42 by omega)); clear ho
      have Hx : Hid (0 ≤ x ∧ x ≤ 16) := by obtain ⟨h0, h1⟩ := hx; unfold Hid; rcases h1 with h1 | h1 <;> omega
      clear hx
      have hw2 : IntKind.i64.wrap (x - 1) = x - 1 := IntWalk.i64_in _ (by have := Hx.out; omega)
      go_wp2_with fail
      refine (pick_any w.heap.size 42 ((l_p.length : Int) + 2) _ l _ HO.out.1 (HRD.out _ _ HO.out) (by omega) (by omega)).mono ?_
      rintro e w62 ⟨y, rfl, hy, ho⟩
      replace O_p := Lib.hid (CurOut.own ho O_p.out (Nat.lt_succ_self _))
      replace HO := Lib.hid (CurOut.mono (HO.out.trans ho) (show _ ≤ 44 by omega)); clear ho
      have Hy : Hid (0 ≤ y ∧ y ≤ 16) := by obtain ⟨h0, h1⟩ := hy; unfold Hid; rcases h1 with h1 | h1 <;> omega
      clear hy
      have hw3 : IntKind.i64.wrap (y - 1) = y - 1 := IntWalk.i64_in _ (by have := Hy.out; omega)
      go_wp2_with fail
      go_ret3
      exact ⟨_, l_p, x - 1, y - 1, rfl, O_p.out.mono (by omega), hl_p, by have := Hx.out; omega, by have := Hy.out; omega, CurOut.toBelow HO.out⟩
theorem drawExchangesOf_any (v : Value) (l : List Int) (w : World) (hr : RdY w v l) : Calls Try.prog 24 #[v] w (DrawnL w 14) := by
  have HS := Lib.hid (drawIsSystem_any v l w hr)
  obtain ⟨y1, y2, rfl, _⟩ := hr
  go_enter Try.func24, Try.ntmps24
  go_wp2_with fail
  refine HS.out.mono ?_
  rintro e w1 ⟨u, ls, rfl, hq, hl, ho⟩
  obtain ⟨x1, x2, x3, rfl⟩ := hq.form'
  have HQ := Lib.hid hq; have HO := Lib.hid ho
  clear hq ho
  go_wp2_with fail
  go_ret
  exact ⟨_, ls, rfl, HQ.out, hl, HO.out⟩

end Go.Proofs.Ytogjclmmjdhfeac
