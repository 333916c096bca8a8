/- The joints of a stack that cross, and foldings, in the program. -/
import Derived.Test.YtnkkgbecdckigaaJoint
import Derived.Test.YtnkkgbecdckigaaLists
namespace Go.Proofs.Ytnkkgbecdckigaa
open Go.RowKit
set_option linter.unusedSimpArgs false
set_option linter.unusedVariables false

theorem crossFrom_step {l P R : List (List Int)} {x : List Int} {k f : Nat} (h : l ++ crossFrom x k (f + 1) = R) : (l ++ crossRow x k (k + 1) (x.length - 1 - (k + 1))) ++ crossFrom x (k + 1) f = R := by
  rw [← h, crossFrom, List.append_assoc]
theorem row_yes {x : List Int} {k j f : Nat} {P S R : List (List Int)} (h : (P ++ crossRow x k j (f + 1)) ++ S = R) (hc : crossB x k j = true) : ((P ++ [[(k : Int), (j : Int)]]) ++ crossRow x k (j + 1) f) ++ S = R := by
  rw [← h, crossRow, hc]; simp
theorem row_no {x : List Int} {k j f : Nat} {P S R : List (List Int)} (h : (P ++ crossRow x k j (f + 1)) ++ S = R) (hc : crossB x k j = false) : (P ++ crossRow x k (j + 1) f) ++ S = R := by
  rw [← h, crossRow, hc]; simp
theorem cell_lit2 (w : World) (A : Obj) (p : Value) (T : TypeId) : ((w.alloc A).alloc (.cells #[p] T)).cell? ⟨w.heap.size + 1, 0, none⟩ = some p := by
  have := cell_lit1 (w.alloc A) p T
  rw [World.size_alloc] at this
  exact this
theorem below_next {w w1 w2 : World} {B : Nat} (h : Below B w w1) (hb : Below w1.heap.size w1 w2) (hB : B ≤ w1.heap.size) : Below B w w2 := h.trans (hb.mono hB)

set_option maxHeartbeats 4000000 in
set_option maxRecDepth 100000 in
theorem crossedJoints_run (l : List Int) (R : List (List Int)) (w : World) (hs : stackB l = true) (hR : crossed l = R) :
    Calls Try.prog 39 #[.agg (stkC l)] w (MadeLL w R) := by
  have h8 := stack_len hs
  have hlast := stkC_last h8
  have h1 := (stack_facts hs).1
  have hlen : R.length ≤ 64 := by rw [← hR]; exact crossed_len l h8
  have hstk : StkIn (w.alloc (.cells (stkC l) 42)) w.heap.size l := heap_alloc_new w _
  unfold crossed at hR
  obtain ⟨m, hm⟩ : ∃ m, m + 1 = l.length := ⟨l.length - 1, by omega⟩
  have hJ := fun (i j : Nat) (w : World) (h1 : i < j) (h2 : j < m) => jointsCross_any l i j w hs h1 (by omega)
  have hF : ∀ P k, k < m → P ++ crossFrom l k (m - k) = R → (P ++ crossRow l k (k + 1) (m - (k + 1))) ++ crossFrom l (k + 1) (m - (k + 1)) = R := by
    intro P k hk h
    have e : m - k = (m - (k + 1)) + 1 := by omega
    rw [e] at h
    have := crossFrom_step (P := R) h
    rw [show l.length - 1 - (k + 1) = m - (k + 1) by omega] at this
    exact this
  rw [← hm] at hlast
  rw [show l.length - 1 = m by omega] at hR
  have HJ := Lib.hid hJ; have HF := Lib.hid hF; have H8 := Lib.hid h8; have HS := Lib.hid hstk; have HR := Lib.hid hR
  have HLR := Lib.hid hlen; have HM := Lib.hid hm
  have hm8 : m ≤ 7 := by omega
  clear hJ hF h8 hstk hR hs hm h1 hlen
  go_enter Try.func39, Try.ntmps39
  go_wp2
  go_loopw [3, 9] (fun o i wr => ∃ (k : Nat) (vs : List Value) (P : List (List Int)), k ≤ m ∧ i = .int .i64 k ∧ Hid (P ++ crossFrom l k (m - k) = R) ∧ OwnLL (w.heap.size + 1) wr.heap.size wr o vs P ∧ Hid (StkIn wr w.heap.size l) ∧ Below w.heap.size w wr ∧ w.heap.size + 1 ≤ wr.heap.size) (fun _ i _ => m - (intOf i).toNat)
  case atStart => exact ⟨0, [], [], by omega, rfl, HR, by simpa using OwnLL.nil (w.heap.size + 1) (w.alloc (.cells (stkC l) 42)) (by simp), HS, Below.alloc1 _ _, by simp⟩
  case round =>
    obtain ⟨k, vs, P, hk, rfl, HP, hown, HK, hbel, hsz⟩ := hrel
    have hcs := HK.out.size H8.out
    rw [← HM.out] at hcs
    clear HR
    by_cases hlt : k < m
    · have HQ := Lib.hid (HF.out P k hlt HP.out)
      clear HP
      go_wp2
      go_loopw [3, 5] (fun o i wr => ∃ (q : Nat) (vs : List Value) (P : List (List Int)), k + 1 ≤ q ∧ q ≤ m ∧ i = .int .i64 q ∧ Hid ((P ++ crossRow l k q (m - q)) ++ crossFrom l (k + 1) (m - (k + 1)) = R) ∧ OwnLL (w.heap.size + 1) wr.heap.size wr o vs P ∧ Hid (StkIn wr w.heap.size l) ∧ Below w.heap.size w wr ∧ w.heap.size + 1 ≤ wr.heap.size) (fun _ i _ => m - (intOf i).toNat)
      case atStart => exact ⟨k + 1, vs, P, by omega, by omega, by go_num, HQ, hown, HK, hbel, hsz⟩
      case round =>
        clear hown HK hbel hsz hcs HQ
        obtain ⟨q, vs, P, hq1, hq2, rfl, HQ, hown, HK, hbel, hsz⟩ := hrel
        have hcs := HK.out.size H8.out
        rw [← HM.out] at hcs
        by_cases hlq : q < m
        · have hPl : P.length ≤ 64 := by
            have := congrArg List.length HQ.out
            simp only [List.length_append] at this
            have := HLR.out
            omega
          have HPL := Lib.hid hPl; clear hPl
          have hQ := HQ.out
          rw [show m - q = (m - (q + 1)) + 1 by omega] at hQ
          have HO := Lib.hid hown; have HB := Lib.hid hbel
          clear hown hbel HQ
          cases hc : crossB l k q with
          | true =>
            have HQ := Lib.hid (row_yes (P := P) hQ hc); clear hQ
            have hj := HJ.out k q wr (by omega) hlq
            rw [hc] at hj
            have HC := Lib.hid hj; clear hj hc
            go_wp2_with (first
              | (with_reducible refine wp_loadStk rfl (.tmp 1) rfl w.heap.size l H8.out rfl HK.out ?_)
              | (go_at_call 62; ((with_reducible refine HC.out.mono ?_); rintro e w1 ⟨rfl, hb1⟩; have HB1 := Lib.hid hb1; clear hb1))
              | (at_builtin; refine wp_appendLL _ rfl (.tmp 25) (.tmp 29) rfl (w.heap.size + 1) wr.heap.size w1.heap.size (w1.heap.size + 1) _ (.slice (some ⟨w1.heap.size, 0, none⟩) 2 2) vs P [(k : Int), (q : Int)] rfl rfl (cell_lit2 _ _ _ _) (OwnLL.below HO.out ((HB1.out.alloc HB1.out.size _).alloc (by have := HB1.out.size; simp; omega) _)) (Own.below (Own.lit2 _ _ _ _ (Nat.le_refl _)) (Below.alloc1 _ _)) HB1.out.size (by have := HB1.out.size; omega) (by have := HPL.out; omega) (by have := HB1.out.size; simp; omega) ?_; intro v' w2 hown2 hgr2 hbel2 _; have HO2 := Lib.hid hown2; have HG2 := Lib.hid hgr2; have HB2 := Lib.hid hbel2; clear hown2 hgr2 hbel2))
            go_roundw
            case rel =>
              have s1 := HB1.out.size
              have bb : Below w.heap.size w ((w1.alloc (.cells #[.int .i64 (k : Int), .int .i64 (q : Int)] 3)).alloc (.cells #[.slice (some ⟨w1.heap.size, 0, none⟩) 2 2] 22)) := ((below_next HB.out HB1.out HB.out.size).alloc (by have := HB.out.size; omega) _).alloc (by have := HB.out.size; simp; omega) _
              refine ⟨q + 1, _, _, by omega, by omega, by go_num, HQ, HO2.out, Lib.hid ?_, bb.trans (HB2.out.mono (by omega)), ?_⟩
              · exact (StkIn.below (HK.out) (((HB1.out.alloc s1 _).alloc (by simp; omega) _))).under HB2.out (by omega)
              · have := HB2.out.size; simp at this; omega
            case measure => simp [intOf]; omega
          | false =>
            have HQ := Lib.hid (row_no (P := P) hQ hc); clear hQ
            have hj := HJ.out k q wr (by omega) hlq
            rw [hc] at hj
            have HC := Lib.hid hj; clear hj hc
            go_wp2_with (first
              | (with_reducible refine wp_loadStk rfl (.tmp 1) rfl w.heap.size l H8.out rfl HK.out ?_)
              | (go_at_call 62; ((with_reducible refine HC.out.mono ?_); rintro e w1 ⟨rfl, hb1⟩; have HB1 := Lib.hid hb1; clear hb1)))
            go_roundw
            case rel => exact ⟨q + 1, vs, P, by omega, by omega, by go_num, HQ, (HO.out.below HB1.out).mono (Nat.le_refl _) HB1.out.size (Nat.le_refl _), Lib.hid (HK.out.below HB1.out), below_next HB.out HB1.out HB.out.size, by have := HB1.out.size; omega⟩
            case measure => simp [intOf]; omega
        · obtain rfl : q = m := by omega
          have hQ := HQ.out
          rw [Nat.sub_self] at hQ
          simp only [crossRow, List.append_nil] at hQ
          have HQ2 := Lib.hid hQ; clear hQ HQ
          go_wp2
          go_roundw
          case rel => exact ⟨k + 1, vs, P, by omega, by go_num, HQ2, hown, HK, hbel, hsz⟩
          case measure => simp [intOf]; omega
    · obtain rfl : k = m := by omega
      have hR := HP.out
      rw [Nat.sub_self] at hR
      simp only [crossFrom, List.append_nil] at hR
      have HR := Lib.hid hR
      clear hR HP
      go_wp2
      go_ret
      rw [← HR.out]
      exact ⟨_, vs, rfl, hown.mono (by omega) (Nat.le_refl _) (Nat.le_refl _), hbel⟩
end Go.Proofs.Ytnkkgbecdckigaa
