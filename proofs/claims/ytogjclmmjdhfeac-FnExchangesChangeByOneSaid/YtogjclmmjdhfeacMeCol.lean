/- The model's way round a curve. -/
/- The model's colours of points, and how many there are. -/
import Derived.Test.YtogjclmmjdhfeacWay
import Derived.Test.YtogjclmmjdhfeacMeander
import Derived.Test.YtogjclmmjdhfeacOwn
import Derived.Deep.LoopGhost
import Derived.Deep.QuietTactic
import Derived.BigQuiet
import Derived.Test.YtogjclmmjdhfeacJoin
namespace Go.Proofs.Ytogjclmmjdhfeac
open Go.RowKit
set_option linter.unusedSimpArgs false
set_option linter.unusedVariables false

/-- a row of numbers that a world holds, and every world over it -/
theorem cells_stay {w : World} {b1 o1 n : Nat} {T : Nat → Nat} (hc : ∀ k, k < n → w.cell? ⟨b1, o1 + k, none⟩ = some (.int .i64 ((T k : Nat) : Int))) :
    ∀ w', Below w.heap.size w w' → ∀ k, k < n → w'.cell? ⟨b1, o1 + k, none⟩ = some (.int .i64 ((T k : Nat) : Int)) :=
  fun w' hb k hk => (hb.cell (p := ⟨b1, o1 + k, none⟩) (World.block_lt_of_cell? w _ (hc k hk))).trans (hc k hk)

set_option maxHeartbeats 2000000 in
theorem meWay_core (T B : Nat → Nat) (n i b1 o1 c1 b2 o2 c2 : Nat) (pt : PairedN T n) (pb : PairedN B n) (hn : n ≤ 12) (hi : i < n) (hl1 : n ≤ c1) (hm1 : c1 ≤ maxLen) (hl2 : n ≤ c2) (hm2 : c2 ≤ maxLen) (w : World)
    (hc1 : ∀ k, k < n → w.cell? ⟨b1, o1 + k, none⟩ = some (.int .i64 ((T k : Nat) : Int))) (hc2 : ∀ k, k < n → w.cell? ⟨b2, o2 + k, none⟩ = some (.int .i64 ((B k : Nat) : Int))) :
    Calls Try.prog 105 #[.agg #[.slice (some ⟨b1, o1, none⟩) n c1, .slice (some ⟨b2, o2, none⟩) n c2], .int .i64 (i : Int)] w (Made w (wayV T B n i)) := by
  unfold maxLen at hm1 hm2
  have hT := cells_stay hc1
  have hB := cells_stay hc2
  have hA := Box2.new 26 w (.slice (some ⟨b1, o1, none⟩) n c1) (.slice (some ⟨b2, o2, none⟩) n c2)
  have B1 := Below.alloc1 w (.cells #[.slice (some ⟨b1, o1, none⟩) n c1, .slice (some ⟨b2, o2, none⟩) n c2] 26)
  have q1 := (pt i hi).1
  have q2 := (pb (T i) q1).1
  have hst := wayAt_start pt pb hi
  have e1 := hT _ B1 i hi
  have B2 := Below.step B1 (Below.alloc1 _ (.cells #[.int .i64 (i : Int), .int .i64 ((T i : Nat) : Int)] 3))
  have hA2 := Box2.below hA (Below.alloc1 _ (.cells #[.int .i64 (i : Int), .int .i64 ((T i : Nat) : Int)] 3))
  have hO2 := Own.lit2 (w.heap.size + 1) (w.alloc (.cells #[.slice (some ⟨b1, o1, none⟩) n c1, .slice (some ⟨b2, o2, none⟩) n c2] 26)) (i : Int) ((T i : Nat) : Int) (by simp)
  rw [World.size_alloc] at hO2
  have e2 := hT _ B2 i hi
  have e3 := hB _ B2 (T i) q1
  have f0 := hA2.c0; have f1 := hA2.c1
  have k0 := hA.c0; have k1 := hA.c1
  have HPT := Lib.hid pt; have HPB := Lib.hid pb; have HT := Lib.hid hT; have HB := Lib.hid hB; have HO2 := Lib.hid hO2; have HA2 := Lib.hid hA2; have HB2 := Lib.hid B2; have HST := Lib.hid hst
  clear hT hB hO2 hA2 B2 hst hA B1 hc1 hc2 pt pb
  generalize T i = y at *
  generalize B y = z at *
  go_enter Try.func105, Try.ntmps105
  go_wp2_with fail
  clear e1 k0 k1
  generalize ((w.alloc (.cells #[.slice (some ⟨b1, o1, none⟩) n c1, .slice (some ⟨b2, o2, none⟩) n c2] 26)).alloc (.cells #[.int .i64 (i : Int), .int .i64 (y : Int)] 3)) = W2 at *
  go_quiet (fail)
  go_wp2_with fail
  clear e2 e3 f0 f1
  go_loopg [5, 6] (n - 1) (fun g s5 s6 wr => ∃ (x : Nat) (done : List Nat), s6 = .int .i64 (x : Int) ∧ x < n ∧ Own (w.heap.size + 1) wr s5 (done.map fun (k : Nat) => (k : Int)) ∧ Below w.heap.size w wr ∧ Box2 26 wr w.heap.size (.slice (some ⟨b1, o1, none⟩) n c1) (.slice (some ⟨b2, o2, none⟩) n c2) ∧ Hid (WayAt T B n i g x done))
  case atStart => exact ⟨z, [i, y], rfl, q2, Own.below HO2.out (below_drewN (Below.refl _ _) _), Below.drewN HB2.out _, Box2.below HA2.out (below_drewN (Below.refl _ _) _), HST⟩
  case round =>
    obtain ⟨x, done, rfl, hx, how, hbe, hbx, HW⟩ := hrel
    clear HST HA2 HB2 HO2
    generalize wr = wa at *
    by_cases e : x = i
    · subst e
      have hne : ((x : Int) != (x : Int)) = false := by simp
      have hd := wayAt_end HW.out
      obtain ⟨a5, n5, c5, rfl⟩ := how.form'
      have HD := Lib.hid hd; have HOW := Lib.hid how; clear hd how
      go_wp2
      go_ret
      exact ⟨_, rfl, by unfold wayV; rw [← HD.out]; exact HOW.out.mono (Nat.le_succ _), hbe⟩
    · obtain ⟨g', hg', hN⟩ := wayAt_next HW.out e
      have hlen := wayAt_len HW.out
      have hne : ((x : Int) != (i : Int)) = true := by simp; omega
      have p1 := (HPT.out x hx).1
      have p2 := (HPB.out (T x) p1).1
      have e1 := HT.out wa hbe x hx
      have hsz := hbe.size
      have k0 := hbx.c0; have k1 := hbx.c1
      have hE := HB.out
      have hTT := HT.out
      have HE := Lib.hid hE; have HTT := Lib.hid hTT
      clear hE hTT
      have HLEN : Hid ((done.map fun (k : Nat) => (k : Int)).length ≤ 24) := by show _ ≤ 24; rw [List.length_map]; omega
      have HN := Lib.hid hN; have HOW := Lib.hid how; have HBE := Lib.hid hbe; have HBX := Lib.hid hbx; have HG := Lib.hid hg'
      have E1 := Lib.hid (fun w' hb => HT.out w' hb x hx); have E2 := Lib.hid (fun w' hb => HB.out w' hb (T x) p1)
      clear hN how hbe hbx hg' hlen e
      generalize T x = y at *
      generalize B y = z at *
      go_wp2_with (at_builtin; refine wp_append _ rfl _ _ rfl (w.heap.size + 1) _ _ (done.map fun (k : Nat) => (k : Int)) [(x : Int), (y : Int)] rfl rfl (Own.below HOW.out (Below.alloc1 _ _)) (Own.rd (Own.lit2 _ _ _ _ (Nat.le_refl _))) (by have := HLEN.out; simp only [List.length_cons, List.length_nil]; omega) (by have := HBX.out.lt; simp; omega) ?_; intro v' w2 hown2 hgr hbel2; have hb3 := (HBE.out.alloc HBE.out.size (.cells #[.int .i64 (x : Int), .int .i64 (y : Int)] 3)).trans (hbel2.mono (Nat.le_succ _)); clear hbel2; have hbx2 := Box2.grown (Box2.below HBX.out (Below.alloc1 wa (.cells #[.int .i64 (x : Int), .int .i64 (y : Int)] 3))) hgr (fun e => by have := (HOW.out.lt _ e.symm).1; omega); have f0 := hbx2.c0; have f1 := hbx2.c1; have e2 := E1.out _ hb3; have e3 := E2.out _ hb3; have HO := Lib.hid hown2; have HB3 := Lib.hid hb3; have HX2 := Lib.hid hbx2; clear hgr hown2 hb3 hbx2)
      clear e1 k0 k1
      go_quiet (fail)
      go_wp2_with fail
      go_roundg g'
      case measure => have := HG.out; omega
      case rel => exact ⟨z, done ++ [x, y], rfl, p2, by rw [List.map_append]; exact Own.below HO.out (below_drewN (Below.refl _ _) _), Below.drewN HB3.out _, Box2.below HX2.out (below_drewN (Below.refl _ _) _), HN⟩

end Go.Proofs.Ytogjclmmjdhfeac

namespace Go.Proofs.Ytogjclmmjdhfeac
open Go.RowKit
set_option linter.unusedSimpArgs false
set_option linter.unusedVariables false

theorem rep_set (n k : Nat) (hk : k < n) : (List.replicate k (-1 : Int) ++ List.replicate (n - k) 0).set k (-1) = List.replicate (k + 1) (-1) ++ List.replicate (n - (k + 1)) 0 := by
  have e : List.replicate (n - k) (0 : Int) = 0 :: List.replicate (n - (k + 1)) 0 := by
    rw [show n - k = (n - (k + 1)) + 1 by omega, List.replicate_succ]
  rw [e, List.set_append_right _ _ (by simp), List.length_replicate, Nat.sub_self, List.set_cons_zero, List.replicate_succ', List.append_assoc]
  rfl
theorem colS_yes {t b : Nat → Nat} {n k : Nat} (h : 0 ≤ (colS t b n k).1.getD k 0) : colS t b n (k + 1) = colS t b n k := by rw [colS, if_pos h]
theorem colS_no {t b : Nat → Nat} {n k : Nat} (h : ¬ 0 ≤ (colS t b n k).1.getD k 0) : colS t b n (k + 1) = (paint (colS t b n k).1 (wayN t b n k) ((colS t b n k).2 : Int), (colS t b n k).2 + 1) := by rw [colS, if_neg h]
theorem paint_take (c : List Int) (W : List Nat) (v : Int) (j : Nat) (hj : j < W.length) : paint c (W.take (j + 1)) v = (paint c (W.take j) v).set (W.getD j 0) v := by
  rw [List.take_succ_eq_append_getElem hj, paint_snoc]
  simp [List.getD, hj]
theorem wayV_getD (t b : Nat → Nat) (n i j : Nat) (hj : j < (wayN t b n i).length) : (wayV t b n i).getD j 0 = (((wayN t b n i).getD j 0 : Nat) : Int) := by
  simp [wayV, List.getD, hj]
theorem getD_mem {W : List Nat} {j : Nat} (hj : j < W.length) : W.getD j 0 ∈ W := by
  simp [List.getD, hj]

set_option maxHeartbeats 8000000 in
theorem meColours_core (T B : Nat → Nat) (a1 a2 : Option Addr) (n c1 c2 : Nat) (pt : PairedN T n) (pb : PairedN B n) (hn : n ≤ 12) (hl1 : n ≤ c1) (hm1 : c1 ≤ maxLen) (hl2 : n ≤ c2) (hm2 : c2 ≤ maxLen) (w : World)
    (hw : ∀ i, i < n → ∀ w', Below w.heap.size w w' → Calls Try.prog 105 #[.agg #[.slice a1 n c1, .slice a2 n c2], .int .i64 (i : Int)] w' (Made w' (wayV T B n i))) :
    Calls Try.prog 81 #[.agg #[.slice a1 n c1, .slice a2 n c2]] w (Made w (colN T B n)) := by
  have hA := Box2.new 26 w (.slice a1 n c1) (.slice a2 n c2)
  have B1 := Below.alloc1 w (.cells #[.slice a1 n c1, .slice a2 n c2] 26)
  have HW := Lib.hid hw
  unfold maxLen at hm1 hm2
  have HLT := Lib.hid (fun i (hi : i < n) => wayN_lt pt pb hi)
  have HIN := Lib.hid (fun i (hi : i < n) => (wayN_closed pt pb hi).1)
  have k0 := hA.c0
  have HA := Lib.hid hA; have HB1 := Lib.hid B1
  clear hA B1 hw pt pb
  go_enter Try.func81, Try.ntmps81
  go_wp2_with (at_make; refine wp_make _ rfl _ _ rfl n _ _ rfl rfl rfl rfl (by omega) ?_; intro w1 hown hbel hsz; simp only [World.size_alloc] at hown; have HO1 := Lib.hid hown; have HB2 := Lib.hid (Below.step HB1.out hbel); have HA2 := Lib.hid (HA.out.below hbel); clear hown hbel hsz k0)
  go_loopw [15] (fun i wr => ∃ k : Nat, k ≤ n ∧ i = .int .i64 (k : Int) ∧ Own (w.heap.size + 1) wr (.slice (some ⟨w.heap.size + 1, 0, none⟩) n n) (List.replicate k (-1) ++ List.replicate (n - k) 0) ∧ Below w.heap.size w wr ∧ Box2 26 wr w.heap.size (.slice a1 n c1) (.slice a2 n c2)) (fun i _ => n - (intOf i).toNat)
  case atStart => exact ⟨0, by omega, rfl, by simpa using HO1.out, HB2.out, HA2.out⟩
  case round =>
    obtain ⟨k, hk, rfl, hown, hbel, hbx⟩ := hrel
    clear HO1 HB2 HA2
    generalize wr = wa at *
    by_cases hlt : k < n
    · have hdst := hown.cellAt k (by simp; omega)
      have hfr := hown.frozenAt k
      have hnew := hown.stored k (-1)
      rw [rep_set n k hlt] at hnew
      have HO := Lib.hid hnew; have HB := Lib.hid (hbel.setCell (p := ⟨w.heap.size + 1, k, none⟩) (Nat.le_succ _) (.int .i64 (-1))); have HX := Lib.hid (Box2.grown hbx (grown_setCell (b := w.heap.size + 1) (i := k) (v := .int .i64 (-1))) (by simp))
      clear hown hbel hbx hnew
      go_wp2
      go_roundw
      case rel => exact ⟨k + 1, by omega, by go_num, HO.out, HB.out, HX.out⟩
      case measure => simp [intOf]; omega
    · obtain rfl : k = n := by omega
      have HO : Hid (Own (w.heap.size + 1) wa (.slice (some ⟨w.heap.size + 1, 0, none⟩) k k) (colS T B k 0).1) := by
        show Own _ _ _ _
        simpa [colS] using hown
      have HB := Lib.hid hbel; have HX := Lib.hid hbx
      clear hown hbel hbx hlt hk
      generalize k = n at *
      go_wp2
      go_loopw [5, 24] (fun nx i wr => ∃ k : Nat, k ≤ n ∧ i = .int .i64 (k : Int) ∧ nx = .int .i64 (((colS T B n k).2 : Nat) : Int) ∧ Own (w.heap.size + 1) wr (.slice (some ⟨w.heap.size + 1, 0, none⟩) n n) (colS T B n k).1 ∧ Below w.heap.size w wr ∧ Box2 26 wr w.heap.size (.slice a1 n c1) (.slice a2 n c2)) (fun _ i _ => n - (intOf i).toNat)
      case atStart => exact ⟨0, by omega, rfl, rfl, HO.out, HB.out, HX.out⟩
      case round =>
        obtain ⟨k, hk, rfl, rfl, hown, hbel, hbx⟩ := hrel
        clear HO HB HX
        generalize wr = wb at *
        by_cases hlt : k < n
        · have hle := colS_le T B n k
          have hlen := colS_length T B n k
          have hyes := colS_yes (t := T) (b := B) (n := n) (k := k)
          have hno := colS_no (t := T) (b := B) (n := n) (k := k)
          have hcell := hown.cellAt k (by rw [hlen]; exact hlt)
          generalize colS T B n k = S at *
          obtain ⟨c, m⟩ := S
          simp only at hle hlen hyes hno hcell hown
          have HLEN := Lib.hid hlen
          clear hlen
          by_cases hy : 0 ≤ c.getD k 0
          · have HY := Lib.hid (hyes hy)
            have HOW := Lib.hid hown; have HBE := Lib.hid hbel; have HBX := Lib.hid hbx
            clear hyes hno hown hbel hbx
            generalize c.getD k 0 = y at *
            go_wp2
            go_roundw
            case rel => exact ⟨k + 1, by omega, by go_num, by rw [HY.out], by rw [HY.out]; exact HOW.out, HBE.out, HBX.out⟩
            case measure => simp [intOf]; omega
          · have HNO := Lib.hid (hno hy)
            have HWK := HW.out k hlt wb hbel
            have hsz := hown.lt (w.heap.size + 1) rfl
            have f0 := hbx.c0; have f1 := hbx.c1
            have HOW := Lib.hid hown; have HBE := Lib.hid hbel; have HBX := Lib.hid hbx; have HWK2 := Lib.hid HWK
            have hy2 : c.getD k 0 < 0 := by omega
            clear hyes hno hown hbel hbx HWK hy
            generalize c.getD k 0 = y at *
            go_wp2_with fail
            clear hcell
            refine HWK2.out.mono ?_
            rintro e w2 ⟨v, rfl, hv, hb2⟩
            have hlt2 := HLT.out k hlt
            have hin := HIN.out k hlt
            rcases hv.shape with ⟨rfl, hnil⟩ | ⟨g, cp, rfl, hg1, hg2, hlc, hcm⟩
            · exfalso
              have : (wayV T B n k).length = 0 := by rw [hnil]; rfl
              rw [wayV, List.length_map] at this
              have := List.eq_nil_of_length_eq_zero this
              rw [this] at hin; simp at hin
            unfold maxLen at hcm
            have hgv := fun j => wayV_getD T B n k j
            have hlv : (wayV T B n k).length = (wayN T B n k).length := by rw [wayV, List.length_map]
            have hWL := wayN_len T B n k
            generalize wayV T B n k = V at *
            generalize wayN T B n k = W at *
            rw [hlv] at hlc hv ⊢
            have HOW2 := Lib.hid (HOW.out.below hb2); have HBE2 := Lib.hid (Below.step HBE.out hb2); have HBX2 := Lib.hid (HBX.out.below hb2); have HV := Lib.hid hv; have HGV := Lib.hid hgv; have HLT2 := Lib.hid hlt2; have HLV := Lib.hid hlv
            clear hv hgv hlt2 hlv hin hb2 HOW HBE HBX f0 f1
            obtain ⟨L, hL⟩ : ∃ L, L = W.length := ⟨_, rfl⟩
            rw [← hL] at hlc hWL HV HGV HLV ⊢
            have HL := Lib.hid hL; clear hL
            go_wp2
            go_loopw [36] (fun i wr => ∃ j : Nat, j ≤ L ∧ i = .int .i64 (j : Int) ∧ Own (w.heap.size + 1) wr (.slice (some ⟨w.heap.size + 1, 0, none⟩) n n) (paint c (W.take j) (m : Int)) ∧ Own wb.heap.size wr (.slice (some ⟨g, 0, none⟩) L cp) V ∧ Below w.heap.size w wr ∧ Box2 26 wr w.heap.size (.slice a1 n c1) (.slice a2 n c2)) (fun i _ => L - (intOf i).toNat)
            case atStart => exact ⟨0, by omega, rfl, HOW2.out, HV.out, HBE2.out, HBX2.out⟩
            case round =>
              obtain ⟨j, hj, rfl, hown, hvv, hbel, hbx⟩ := hrel
              clear HOW2 HV HBE2 HBX2
              generalize wr = wc at *
              by_cases hjl : j < L
              · have hx := HLT2.out (W.getD j 0) (getD_mem (by rw [← HL.out]; exact hjl))
                have hcv := hvv.cellAt j (by rw [HLV.out]; exact hjl)
                rw [HGV.out j hjl] at hcv
                have hpt := paint_take c W (m : Int) j (by rw [← HL.out]; exact hjl)
                generalize W.getD j 0 = x at *
                have hpl : Hid ((paint c (W.take j) (m : Int)).length = n) := by show _ = n; rw [paint_length]; exact HLEN.out
                have hdst := hown.cellAt x (by rw [hpl.out]; exact hx)
                have hfr := hown.frozenAt x
                have hnew := hown.stored x (m : Int)
                rw [← hpt] at hnew
                have HO := Lib.hid hnew; have HB := Lib.hid (hbel.setCell (p := ⟨w.heap.size + 1, x, none⟩) (Nat.le_succ _) (.int .i64 (m : Int))); have HX := Lib.hid (Box2.grown hbx (grown_setCell (b := w.heap.size + 1) (i := x) (v := .int .i64 (m : Int))) (by simp))
                have HV := Lib.hid (Own.grown hvv (grown_setCell (b := w.heap.size + 1) (i := x) (v := .int .i64 (m : Int))) (fun q hq e => by simp [Value.ownBlock] at hq e; omega))
                clear hown hbel hbx hnew hvv hpt
                generalize (paint c (W.take j) (m : Int)).getD x 0 = z at *
                go_wp2
                go_roundw
                case rel => exact ⟨j + 1, by omega, by go_num, HO.out, HV.out, HB.out, HX.out⟩
                case measure => simp [intOf]; omega
              · obtain rfl : j = L := by omega
                have HO : Hid (Own (w.heap.size + 1) wc (.slice (some ⟨w.heap.size + 1, 0, none⟩) n n) (paint c W (m : Int))) := by
                  show Own _ _ _ _
                  rw [HL.out, List.take_length] at hown
                  exact hown
                have HB := Lib.hid hbel; have HX := Lib.hid hbx
                clear hown hbel hbx hvv
                go_wp2
                go_roundw
                case rel => exact ⟨k + 1, by omega, by go_num, by rw [HNO.out]; go_num, by rw [HNO.out]; exact HO.out, HB.out, HX.out⟩
                case measure => simp [intOf]; omega
        · obtain rfl : k = n := by omega
          have HOW := Lib.hid hown; have HBE := Lib.hid hbel
          clear hown hbel hbx
          go_wp2
          go_ret
          exact ⟨_, rfl, HOW.out.mono (Nat.le_succ _), HBE.out⟩

theorem l1Most_any (a b : Int) (w : World) : Calls Try.prog 82 #[.int .i64 a, .int .i64 b] w fun e w' => e = .returned (.int .i64 (if b < a then a else b)) ∧ w = w' := by
  by_cases h : b < a
  · rw [if_pos h]
    go_enter Try.func82, Try.ntmps82
    go_wp2
    go_ret
    exact ⟨rfl, rfl⟩
  · rw [if_neg h]
    go_enter Try.func82, Try.ntmps82
    go_wp2
    go_ret
    exact ⟨rfl, rfl⟩
theorem most_step (c : List Int) (k : Nat) : (if c.getD k 0 < mostL c k then mostL c k else c.getD k 0) = mostL c (k + 1) := by
  rw [mostL]; split <;> split <;> omega

set_option maxHeartbeats 4000000 in
theorem meCount_core (T B : Nat → Nat) (a1 a2 : Option Addr) (n c1 c2 : Nat) (pt : PairedN T n) (pb : PairedN B n) (hn : n ≤ 12) (hl1 : n ≤ c1) (hm1 : c1 ≤ maxLen) (hl2 : n ≤ c2) (hm2 : c2 ≤ maxLen) (w : World)
    (hw : ∀ i, i < n → ∀ w', Below w.heap.size w w' → Calls Try.prog 105 #[.agg #[.slice a1 n c1, .slice a2 n c2], .int .i64 (i : Int)] w' (Made w' (wayV T B n i))) :
    Calls Try.prog 44 #[.agg #[.slice a1 n c1, .slice a2 n c2]] w fun e w' => e = .returned (.int .i64 ((cntW T B n : Nat) : Int)) ∧ Below w.heap.size w w' := by
  have hA := Box2.new 26 w (.slice a1 n c1) (.slice a2 n c2)
  have B1 := Below.alloc1 w (.cells #[.slice a1 n c1, .slice a2 n c2] 26)
  have HC := Lib.hid (meColours_core T B a1 a2 n c1 c2 pt pb hn hl1 hm1 hl2 hm2 _ (fun i hi w' hb => hw i hi w' (Below.step B1 hb)))
  have hok := col_ok pt pb
  have HM := Lib.hid (most_col pt pb)
  have k0 := hA.c0; have k1 := hA.c1
  have HB1 := Lib.hid B1
  have HLEN := Lib.hid hok.len; have HRNG := Lib.hid (fun x hx => hok.rng x hx)
  have hcl := cnt_le T B n
  clear hA B1 hw pt pb hok
  generalize cntW T B n = N at *
  generalize colN T B n = c at *
  go_enter Try.func44, Try.ntmps44
  go_wp2_with fail
  refine HC.out.mono ?_
  rintro e w1 ⟨v, rfl, hv, hb1⟩
  obtain ⟨a, cp, rfl, hlc, hcm⟩ := hv.form
  unfold maxLen at hcm
  rw [HLEN.out] at hlc ⊢
  have HV := Lib.hid hv; have HBE := Lib.hid (Below.step HB1.out hb1)
  clear hv hb1 k0 k1
  go_wp2
  go_loop [3, 9] (fun mo i => ∃ k : Nat, k ≤ n ∧ i = .int .i64 (k : Int) ∧ mo = .int .i64 (mostL c k)) (fun _ i => n - (intOf i).toNat)
  case atStart => exact ⟨0, by omega, rfl, rfl⟩
  case round =>
    obtain ⟨k, hk, rfl, rfl⟩ := hrel
    by_cases hlt : k < n
    · have hv := HV.out
      rcases hv.shape with ⟨h0, h1⟩ | ⟨g, c', h0, _, _, _, _⟩
      · exfalso; have := HLEN.out; rw [h1] at this; simp at this; omega
      simp only [Value.slice.injEq] at h0
      obtain ⟨rfl, -, rfl⟩ := h0
      have hc := hv.cellAt k (by rw [HLEN.out]; exact hlt)
      have HST := Lib.hid (most_step c k)
      have hm0 := mostL_le c k
      have hx := HRNG.out k hlt
      have HL := Lib.hid (fun w => l1Most_any (mostL c k) (c.getD k 0) w)
      rw [HST.out] at HL
      clear hv
      generalize c.getD k 0 = x at *
      go_wp2_with (go_at_call 82; ((with_reducible refine (HL.out _).mono ?_); rintro e w' ⟨rfl, rfl⟩))
      go_round
      case rel => exact ⟨k + 1, by omega, by go_num, rfl⟩
      case measure => simp [intOf]; omega
    · obtain rfl : k = n := by omega
      have hm0 := mostL_le c k
      have hm1 := mostL_lt c (N : Int) (by omega) k (fun x hx => (HRNG.out x hx).2)
      go_wp2
      go_ret
      refine ⟨?_, HBE.out⟩
      show Ending.returned (.int .i64 (mostL c k + 1)) = _
      rw [HM.out]

/-- the way's contract, out of two slices that read as a pair -/
theorem meWay_of {t b : List Int} (gt : goodB t = true) (gb : goodB b = true) (hl : t.length = b.length) {w : World} {a1 a2 : Option Addr} {c1 c2 : Nat} (h1 : Rd w (.slice a1 t.length c1) t) (h2 : Rd w (.slice a2 t.length c2) b) :
    ∀ i, i < t.length → ∀ w', Below w.heap.size w w' → Calls Try.prog 105 #[.agg #[.slice a1 t.length c1, .slice a2 t.length c2], .int .i64 (i : Int)] w' (Made w' (wayV (par t) (par b) t.length i)) := by
  intro i hi w' hb
  obtain ⟨b1, o1, d1, e1, p1, p2, p3⟩ := h1.at (by omega)
  obtain ⟨b2, o2, d2, e2, q1, q2, q3⟩ := h2.at (by omega)
  simp only [Value.slice.injEq] at e1 e2
  obtain ⟨rfl, -, rfl⟩ := e1
  obtain ⟨rfl, -, rfl⟩ := e2
  have pt := good_paired gt
  have pb := good_paired gb
  rw [← hl] at pb
  refine meWay_core (par t) (par b) t.length i b1 o1 c1 b2 o2 c2 pt pb (good_len' gt) hi p1 p2 (by omega) q2 w' (fun k hk => ?_) (fun k hk => ?_)
  · have := p3 k hk
    rw [← good_cell gt k hk]
    exact (hb.cell (p := ⟨b1, o1 + k, none⟩) (World.block_lt_of_cell? w _ this)).trans this
  · have := q3 k (by omega)
    rw [← good_cell gb k (by omega)]
    exact (hb.cell (p := ⟨b2, o2 + k, none⟩) (World.block_lt_of_cell? w _ this)).trans this
theorem meWay_any (t b : List Int) (gt : goodB t = true) (gb : goodB b = true) (hl : t.length = b.length) (w : World) (u1 u2 : Value) (h1 : Rd w u1 t) (h2 : Rd w u2 b) (i : Nat) (hi : i < t.length) :
    Calls Try.prog 105 #[.agg #[u1, u2], .int .i64 (i : Int)] w (Made w (wayV (par t) (par b) t.length i)) := by
  have k1 := h1; have k2 := h2
  obtain ⟨a1, c1, rfl, _⟩ := h1
  obtain ⟨a2, c2, rfl, _⟩ := h2
  rw [← hl] at k2 ⊢
  exact meWay_of gt gb hl k1 k2 i hi w (Below.refl _ _)
theorem meColours_any (t b : List Int) (gt : goodB t = true) (gb : goodB b = true) (hl : t.length = b.length) (w : World) (u1 u2 : Value) (h1 : Rd w u1 t) (h2 : Rd w u2 b) :
    Calls Try.prog 81 #[.agg #[u1, u2]] w (Made w (colN (par t) (par b) t.length)) := by
  have k1 := h1; have k2 := h2
  obtain ⟨a1, c1, rfl, p1, p2, _⟩ := h1
  obtain ⟨a2, c2, rfl, q1, q2, _⟩ := h2
  rw [← hl] at k2 q1 ⊢
  have pb := good_paired gb
  rw [← hl] at pb
  exact meColours_core _ _ a1 a2 _ c1 c2 (good_paired gt) pb (good_len' gt) p1 p2 q1 q2 w (meWay_of gt gb hl k1 k2)
theorem meCount_any (t b : List Int) (gt : goodB t = true) (gb : goodB b = true) (hl : t.length = b.length) (w : World) (u1 u2 : Value) (h1 : Rd w u1 t) (h2 : Rd w u2 b) :
    Calls Try.prog 44 #[.agg #[u1, u2]] w fun e w' => e = .returned (.int .i64 ((cntW (par t) (par b) t.length : Nat) : Int)) ∧ Below w.heap.size w w' := by
  have k1 := h1; have k2 := h2
  obtain ⟨a1, c1, rfl, p1, p2, _⟩ := h1
  obtain ⟨a2, c2, rfl, q1, q2, _⟩ := h2
  rw [← hl] at k2 q1 ⊢
  have pb := good_paired gb
  rw [← hl] at pb
  exact meCount_core _ _ a1 a2 _ c1 c2 (good_paired gt) pb (good_len' gt) p1 p2 q1 q2 w (meWay_of gt gb hl k1 k2)

end Go.Proofs.Ytogjclmmjdhfeac
