/- TurnSystem. -/
import Derived.Test.YtbinpefogecgmabDraw
import Derived.Test.YtbinpefogecgmabGood
import Derived.BigRegion
namespace Go.Proofs.Ytbinpefogecgmab
open Go.RowKit
set_option linter.unusedSimpArgs false
set_option linter.unusedVariables false

def turnL (l : List Int) (b : Int) : List Int := drawL (shiftTo b (l.length : Int)) (List.replicate l.length 0) l l.length
theorem turnL_length (l : List Int) (b : Int) : (turnL l b).length = l.length := by rw [turnL, drawL_length, List.length_replicate]
def res_TurnSystem (l : List Int) (b : Int) : List Int := if goodB l && inB b (-100) 100 then turnL l b else []
def ok_TurnSystem (l : List Int) (b : Int) : Bool := goodB l && inB b (-100) 100
theorem len_TurnSystem (l : List Int) (b : Int) : (res_TurnSystem l b).length ≤ 1000000 := by
  unfold res_TurnSystem
  split
  · next h => rw [turnL_length]; have := good_len' (by simp at h; exact h.1); omega
  · simp

theorem shiftTo_walk (b n i : Int) (hn : 0 < n) (hn1 : n ≤ 12) : (wrap64 ((i + b).tmod n + n)).tmod n = shiftTo b n i := by
  have h1 := Int.tmod_lt_of_pos (i + b) hn
  have h2 := Int.lt_tmod_of_pos (i + b) hn
  rw [IntWalk.wrap64_in _ (by omega)]
  rfl

set_option maxHeartbeats 2000000 in
theorem specTurn_run (l : List Int) (b : Int) (w : World) (u : Value) (h : Rd w u l) (hg : goodB l = true) (hb0 : -100 ≤ b) (hb1 : b ≤ 100) : Calls Try.prog 63 #[u, .int .i64 b] w (Gives w (turnL l b) true) := by
  have hl12 := good_len' hg
  have hr : ∀ k, k < l.length → 0 ≤ l.getD k 0 ∧ l.getD k 0 < l.length := fun k hk => ⟨((good_facts hg).2.2.1 k hk).1, ((good_facts hg).2.2.1 k hk).2.1⟩
  have hgood := fun w h => ahGood_any u l w h (by omega)
  rw [hg] at hgood
  have h0 := h
  obtain ⟨a, c, rfl, hlc, hcm, hnc, hrd⟩ := h
  obtain ⟨n, hn⟩ : ∃ n, n = l.length := ⟨_, rfl⟩
  unfold turnL
  rw [← hn] at hlc hl12 hr hrd h0 hgood ⊢
  unfold maxLen at hcm
  have HN := Lib.hid hn; have HR := Lib.hid hr; have HC := Lib.hid hrd; have H0 := Lib.hid h0; have HA := Lib.hid hgood; have HIN := Lib.hid (inB_yes hb0 hb1)
  clear hn hr hrd h0 hg hnc hgood
  go_enter Try.func63, Try.ntmps63
  go_wp2_with (first
    | (go_at_call 86; refine (HA.out _ H0.out).mono ?_; rintro e w1 ⟨rfl, hb⟩)
    | (go_at_call 87; refine (l1In_any _ _ _ _).mono ?_; rintro e w' ⟨rfl, rfl⟩; rw [HIN.out])
    | (at_make; refine wp_make w1 rfl _ _ rfl n _ _ rfl rfl rfl rfl (by omega) ?_; intro w2 hown hbel hsz))
  have C : Below w.heap.size w w2 := Below.step hb hbel
  go_loopw [24] (fun i wr => ∃ k : Nat, k ≤ n ∧ i = .int .i64 k ∧ Own w1.heap.size wr (.slice (some ⟨w1.heap.size, 0, none⟩) n n) (drawL (shiftTo b (n : Int)) (List.replicate n 0) l k) ∧ Below w.heap.size w wr) (fun i _ => n - (intOf i).toNat)
  case atStart => exact ⟨0, by omega, rfl, hown, C⟩
  case round =>
    obtain ⟨k, hk, rfl, hownr, hbelr⟩ := hrel
    have hw1 := hb.size
    clear hown hbel hsz C
    by_cases hlt : k < n
    · rcases HC.out with h0 | ⟨bb, off, rfl, hcell⟩
      · exfalso; rw [HN.out, h0] at hlt; simp at hlt
      have hsrc : wr.cell? ⟨bb, off + k, none⟩ = some (.int .i64 (l.getD k 0)) := by
        have := hcell k hlt
        exact (hbelr.cell (p := ⟨bb, off + k, none⟩) (World.block_lt_of_cell? w _ this)).trans this
      have hx := HR.out k hlt
      have hin := shiftTo_in b n k (by omega)
      have e1 := shiftTo_walk b n k (by omega) (by omega)
      have e2 := shiftTo_walk b n (l.getD k 0) (by omega) (by omega)
      have hlen := drawL_length (shiftTo b (n : Int)) (List.replicate n 0) l k
      rw [List.length_replicate] at hlen
      have hnext : drawL (shiftTo b (n : Int)) (List.replicate n 0) l (k + 1) = (drawL (shiftTo b (n : Int)) (List.replicate n 0) l k).set (shiftTo b n k).toNat (shiftTo b n (l.getD k 0)) := rfl
      obtain ⟨j, hj⟩ := Int.eq_ofNat_of_zero_le hin.1
      rw [hj] at e1 hnext hin
      rw [Int.toNat_natCast] at hnext
      generalize shiftTo b n (l.getD k 0) = y at e2 hnext
      generalize l.getD k 0 = x at hsrc hx e2
      have hjn : j < n := by omega
      have hdst := hownr.cellAt j (by rw [hlen]; omega)
      have hfr := hownr.frozenAt j
      have hnew := hownr.stored j y
      rw [← hnext] at hnew
      have HW := Lib.hid hnew
      have HB := Lib.hid (hbelr.setCell (p := ⟨w1.heap.size, j, none⟩) hw1 (.int .i64 y))
      have HNX := Lib.hid hnext
      clear hnew hownr hbelr hcell hlen hnext hj hin hb
      generalize (drawL (shiftTo b (n : Int)) (List.replicate n 0) l k).getD j 0 = z at hdst
      go_wp2
      go_region
      go_wp2
      go_roundw
      case rel => exact ⟨k + 1, by omega, by go_num, HW.out, HB.out.drew⟩
      case measure => simp [intOf]; omega
    · obtain rfl : k = n := by omega
      go_wp2
      go_ret2
      exact ⟨_, rfl, hownr.mono hw1, hbelr⟩

set_option maxHeartbeats 1000000 in
theorem spec_TurnSystem (l : List Int) (b : Int) (w : World) (u : Value) (h : Rd w u l) (m : l.length ≤ 1048576) : Calls Try.prog 63 #[u, .int .i64 b] w (Gives w (res_TurnSystem l b) (ok_TurnSystem l b)) := by
  unfold res_TurnSystem ok_TurnSystem
  have hgood := ahGood_any u l w h m
  cases hg : goodB l with
  | true =>
    rw [hg] at hgood
    by_cases hb : -100 ≤ b ∧ b ≤ 100
    · rw [inB_yes hb.1 hb.2]
      simp only [Bool.and_self, if_true]
      exact specTurn_run l b w u h hg hb.1 hb.2
    · have hi := inB_no hb
      rw [hi]
      simp only [Bool.and_false]
      have HG := Lib.hid hg; have HA := Lib.hid hgood; have HI := Lib.hid hi; clear hg hgood hi hb
      go_enter Try.func63, Try.ntmps63
      go_wp2_with (first
        | (go_at_call 86; refine HA.out.mono ?_; rintro e w1 ⟨rfl, hb⟩)
        | (go_at_call 87; refine (l1In_any _ _ _ _).mono ?_; rintro e w' ⟨rfl, rfl⟩; rw [HI.out]))
      go_ret2
      exact ⟨_, rfl, Own.nil _ _, hb⟩
  | false =>
    rw [hg] at hgood
    simp only [Bool.false_and]
    have HA := Lib.hid hgood; clear hg hgood
    go_enter Try.func63, Try.ntmps63
    go_wp2_with (go_at_call 86; refine HA.out.mono ?_; rintro e w1 ⟨rfl, hb⟩)
    go_ret2
    exact ⟨_, rfl, Own.nil _ _, hb⟩

theorem turn_fits {l : List Int} {b : Int} (n : Nat) (hn : n = l.length) : ∀ k : Nat, k < l.length → 0 ≤ shiftTo b (n : Int) (k : Int) ∧ shiftTo b (n : Int) (k : Int) < (List.replicate n (0 : Int)).length := by
  intro k hk
  simp only [List.length_replicate]
  exact shiftTo_in b n k (by omega)
theorem turn_place (n : Nat) (b : Int) (hn : n ≤ 12) (hb0 : -100 ≤ b) (hb1 : b ≤ 100) (h0 : 0 < n) : ∀ (i : Int) (w : World), 0 ≤ i → i < 12 → Calls Try.prog 117 #[.agg #[.int .i64 b, .int .i64 (n : Int)], .int .i64 i] w (IntOut w (shiftTo b (n : Int) i)) :=
  fun i w h1 h2 => shift_place b (n : Int) i w hb0 hb1 (by omega) (by omega) h1 (by omega)

set_option maxHeartbeats 1000000 in
theorem impl_TurnSystem (l : List Int) (b : Int) (w : World) (u : Value) (h : Rd w u l) (m : l.length ≤ 1048576) : Calls Try.prog 61 #[u, .int .i64 b] w (Gives w (res_TurnSystem l b) (ok_TurnSystem l b)) := by
  unfold res_TurnSystem ok_TurnSystem
  cases hg : goodB l with
  | true =>
    by_cases hr : -100 ≤ b ∧ b ≤ 100
    · rw [inB_yes hr.1 hr.2]
      simp only [Bool.and_self, if_true]
      have hl := good_len' hg
      have hrr : ∀ k, k < l.length → 0 ≤ l.getD k 0 ∧ l.getD k 0 < 12 := fun k hk => ⟨((good_facts hg).2.2.1 k hk).1, by have := ((good_facts hg).2.2.1 k hk).2.1; omega⟩
      have HL : Hid (l.length ≤ 12) := hl
      have HR := Lib.hid hrr
      have HG := Lib.hid hg; clear hg hrr
      have HM : Hid ((turnL l b).length ≤ 12) := by show (turnL l b).length ≤ 12; rw [turnL_length]; exact hl
      obtain ⟨n, hn⟩ : ∃ n, n = l.length := ⟨_, rfl⟩
      have HN := Lib.hid hn
      rw [← hn] at hl
      clear hn
      go_enter Try.func61, Try.ntmps61
      go_wp2_with fail
      refine (readSystem_yes u l _ h HG.out).mono ?_
      rintro e w1 ⟨rfl, hb⟩
      go_wp2_with (first
        | ((with_reducible refine wp_storeNew rfl (.tmp 6) (.tmp 12) rfl _ l HL.out rfl rfl ?_); intro w2 hs2 hb2; have hcs := hs2.size HL.out; rw [← HN.out] at hcs; have hbl := SysIn.blank w2 n (n : Int) rfl hl; have hs3 := SysIn.old hs2 (n : Int); have hcs3 := hs3.size HL.out; rw [← HN.out] at hcs3)
        | (with_reducible refine wp_loadSys rfl (.tmp 6) rfl w1.heap.size l HL.out rfl (by assumption) ?_)
        | (go_at_call 116; ((with_reducible refine (draw_shift _ (shiftTo b (n : Int)) _ (List.replicate n 0) l _ hbl (by simpa using hl) HL.out (fun h0 => turn_place n b (by rw [HN.out]; exact HL.out) hr.1 hr.2 (by rw [HN.out]; exact h0)) HR.out (turn_fits n HN.out)).mono ?_); rintro e w3 ⟨rfl, hs4, hg4⟩; have hs5 : SysIn w3 w2.heap.size (turnL l b) := (by unfold turnL; rw [← HN.out]; rw [← HN.out] at hs4; exact hs4)))
        | (with_reducible refine wp_loadSys rfl (.tmp 8) rfl w2.heap.size (turnL l b) HM.out rfl (by assumption) ?_)
        | (go_at_call 84; refine (list_any _ _ HM.out).mono ?_; rintro e w4 ⟨v, rfl, hown, hb4⟩))
      go_ret2
      have C := drawn_below (Below.step hb hb2) hg4
      exact ⟨_, rfl, hown.mono C.size, Below.step C hb4⟩
    · rw [inB_no hr]
      simp only [Bool.and_false]
      have hl := good_len' hg
      have HL : Hid (l.length ≤ 12) := hl
      have HG := Lib.hid hg; clear hg hl
      have hr2 : b < -100 ∨ 100 < b := by omega
      clear hr
      rcases hr2 with hr2 | hr2
      all_goals
        go_enter Try.func61, Try.ntmps61
        go_wp2_with fail
        refine (readSystem_yes u l _ h HG.out).mono ?_
        rintro e w1 ⟨rfl, hb⟩
        go_wp2_with ((with_reducible refine wp_storeNew rfl (.tmp 6) (.tmp 12) rfl _ l HL.out rfl rfl ?_); intro w2 hs2 hb2)
        go_ret2
        exact ⟨_, rfl, Own.nil _ _, Below.step hb hb2⟩
  | false =>
    simp only [Bool.false_and]
    have HG := Lib.hid hg; clear hg
    go_enter Try.func61, Try.ntmps61
    go_wp2_with fail
    refine (readSystem_no u l _ h HG.out).mono ?_
    rintro e w1 ⟨rfl, hb⟩
    go_wp2_with ((with_reducible refine wp_storeNew rfl (.tmp 6) (.tmp 12) rfl _ [] (Nat.zero_le _) rfl rfl ?_); intro w2 hs2 hb2)
    go_ret2
    exact ⟨_, rfl, Own.nil _ _, Below.step hb hb2⟩

end Go.Proofs.Ytbinpefogecgmab
