/- OuterArches. -/
import Derived.Test.YtbinpefogecgmaaPoints
import Derived.Test.YtbinpefogecgmaaEnum
namespace Go.Proofs.Ytbinpefogecgmaa
open Go.RowKit
set_option linter.unusedSimpArgs false
set_option linter.unusedVariables false

def res_OuterArches (l : List Int) : List Int := if goodB l then whereL (isOuterB l) l.length else []
def ok_OuterArches (l : List Int) : Bool := goodB l
theorem len_OuterArches (l : List Int) : (res_OuterArches l).length ≤ 1000000 := by
  unfold res_OuterArches
  split
  · next h => have := whereL_len (isOuterB l) l.length; have := good_len' h; omega
  · simp

set_option maxHeartbeats 1000000 in
theorem impl_OuterArches (l : List Int) (w : World) (u : Value) (h : Rd w u l) (m : l.length ≤ 1048576) : Calls Try.prog 39 #[u] w (Gives w (res_OuterArches l) (ok_OuterArches l)) := by
  unfold res_OuterArches ok_OuterArches
  cases hg : goodB l with
  | true =>
    simp only [if_true]
    have HL : Hid (l.length ≤ 12) := good_len' hg
    have HG := Lib.hid hg; clear hg
    go_enter Try.func39, Try.ntmps39
    go_wp2_with fail
    refine (readSystem_yes u l _ h HG.out).mono ?_
    rintro e w1 ⟨rfl, hb⟩
    go_wp2_with (first
      | ((with_reducible refine wp_storeNew rfl (.tmp 4) (.tmp 9) rfl _ l HL.out rfl rfl ?_); intro w2 hs2 hb2)
      | (with_reducible refine wp_loadSys rfl (.tmp 4) rfl w1.heap.size l HL.out rfl hs2 ?_)
      | (go_at_call 101; ((with_reducible refine (points_isOuter (isOuterB l) _ l _ HL.out (fun i w h0 h1 => isOuter_any l i w HL.out h0 h1)).mono ?_); rintro e w3 ⟨v, rfl, hown, hb3⟩)))
    go_ret2
    have C := Below.step hb hb2
    exact ⟨_, rfl, hown.mono C.size, Below.step C hb3⟩
  | false =>
    have HG := Lib.hid hg; clear hg
    go_enter Try.func39, Try.ntmps39
    go_wp2_with fail
    refine (readSystem_no u l _ h HG.out).mono ?_
    rintro e w1 ⟨rfl, hb⟩
    go_wp2_with ((with_reducible refine wp_storeNew rfl (.tmp 4) (.tmp 9) rfl _ [] (Nat.zero_le _) rfl rfl ?_); intro w2 hs2 hb2)
    go_ret2
    exact ⟨_, rfl, Own.nil _ _, Below.step hb hb2⟩

/-- from outer arch to outer arch -/
def outerRun (l : List Int) : Nat → Nat → List Int → List Int
  | 0, _, out => out
  | f + 1, i, out => if i < l.length then outerRun l f (par l i + 1) (out ++ [(i : Int)]) else out
def outerCheck (l : List Int) : Bool := outerRun l (l.length + 1) 0 [] == whereL (isOuterB l) l.length
theorem outerCheck0 : (sysAll 0).all outerCheck = true := by kernel_rfl
theorem outerCheck1 : (sysAll 1).all outerCheck = true := by kernel_rfl
theorem outerCheck2 : (sysAll 2).all outerCheck = true := by kernel_rfl
theorem outerCheck3 : (sysAll 3).all outerCheck = true := by kernel_rfl
theorem outerCheck4 : (sysAll 4).all outerCheck = true := by kernel_rfl
theorem outerCheck5 : (sysAll 5).all outerCheck = true := by kernel_rfl
theorem outerCheck6 : (sysAll 6).all outerCheck = true := by kernel_rfl

theorem outerRun_end {l : List Int} {f i : Nat} {out R : List Int} (h : outerRun l f i out = R) (hf : l.length - i < f) (hi : ¬ i < l.length) : out = R := by
  cases f with
  | zero => omega
  | succ f => rw [outerRun, if_neg hi] at h; exact h
theorem outerRun_step {l : List Int} {f i : Nat} {out R : List Int} (h : outerRun l (f + 1) i out = R) (hi : i < l.length) : outerRun l f (par l i + 1) (out ++ [(i : Int)]) = R := by
  rw [outerRun, if_pos hi] at h; exact h

/-- an arch that begins at an outer point begins (the run meets no ends) -/
def outerOk (l : List Int) : Nat → Nat → Bool
  | 0, _ => true
  | f + 1, i => !decide (i < l.length) || (decide (i < par l i) && outerOk l f (par l i + 1))
def outerOkCheck (l : List Int) : Bool := outerOk l (l.length + 1) 0
theorem outerOk0 : (sysAll 0).all outerOkCheck = true := by kernel_rfl
theorem outerOk1 : (sysAll 1).all outerOkCheck = true := by kernel_rfl
theorem outerOk2 : (sysAll 2).all outerOkCheck = true := by kernel_rfl
theorem outerOk3 : (sysAll 3).all outerOkCheck = true := by kernel_rfl
theorem outerOk4 : (sysAll 4).all outerOkCheck = true := by kernel_rfl
theorem outerOk5 : (sysAll 5).all outerOkCheck = true := by kernel_rfl
theorem outerOk6 : (sysAll 6).all outerOkCheck = true := by kernel_rfl
theorem outerOk_step {l : List Int} {f i : Nat} (h : outerOk l (f + 1) i = true) (hi : i < l.length) : i < par l i ∧ outerOk l f (par l i + 1) = true := by
  rw [outerOk, decide_eq_true hi] at h
  simpa using h

set_option maxHeartbeats 2000000 in
theorem specOuter_run (l : List Int) (w : World) (u : Value) (h : Rd w u l) (hg : goodB l = true) : Calls Try.prog 54 #[u] w (Gives w (whereL (isOuterB l) l.length) true) := by
  have hl12 := good_len' hg
  have hr : ∀ k, k < l.length → 0 ≤ l.getD k 0 ∧ l.getD k 0 < l.length := fun k hk => ⟨((good_facts hg).2.2.1 k hk).1, ((good_facts hg).2.2.1 k hk).2.1⟩
  have hgood := fun w h => ahGood_any u l w h (by omega)
  rw [hg] at hgood
  have hrun : outerRun l (l.length + 1) 0 [] = whereL (isOuterB l) l.length := eq_of_beq (good_all6 outerCheck0 outerCheck1 outerCheck2 outerCheck3 outerCheck4 outerCheck5 outerCheck6 hg)
  have hok : outerOk l (l.length + 1) 0 = true := good_all6 outerOk0 outerOk1 outerOk2 outerOk3 outerOk4 outerOk5 outerOk6 hg
  generalize whereL (isOuterB l) l.length = R at hrun ⊢
  have h0 := h
  obtain ⟨a, c, rfl, hlc, hcm, hnc, hrd⟩ := h
  obtain ⟨n, hn⟩ : ∃ n, n = l.length := ⟨_, rfl⟩
  rw [← hn] at hlc hl12 hr hrd h0 hgood hrun hok ⊢
  unfold maxLen at hcm
  have HN := Lib.hid hn; have HR := Lib.hid hr; have HC := Lib.hid hrd; have H0 := Lib.hid h0; have HA := Lib.hid hgood; have HX := Lib.hid hrun; have HO := Lib.hid hok
  clear hn hr hrd h0 hg hnc hgood hrun hok
  go_enter Try.func54, Try.ntmps54
  go_wp2_with fail
  refine (HA.out _ H0.out).mono ?_
  rintro e w1 ⟨rfl, hb⟩
  go_wp2
  go_loopw [4, 5] (fun o i wr => ∃ (k f : Nat) (out : List Int), k ≤ n ∧ n - k < f ∧ out.length ≤ k ∧ i = .int .i64 k ∧ Own w.heap.size wr o out ∧ Below w.heap.size w wr ∧ Hid (outerRun l f k out = R) ∧ Hid (outerOk l f k = true)) (fun _ i _ => n - (intOf i).toNat)
  case atStart => exact ⟨0, n + 1, [], by omega, by omega, by simp, rfl, Own.nil _ _, hb, HX.out, HO.out⟩
  case round =>
    obtain ⟨k, f, out, hk, hf, hlen, rfl, hown, hbel, HK, HOK⟩ := hrel
    have hsz := hbel.size
    clear hb HX HO
    by_cases hlt : k < n
    · rcases HC.out with h0 | ⟨bb, off, rfl, hcell⟩
      · exfalso; rw [HN.out, h0] at hlt; simp at hlt
      obtain ⟨f, rfl⟩ : ∃ g, f = g + 1 := ⟨f - 1, by omega⟩
      have hx := HR.out k hlt
      have ex := par_int hx.1
      have hst := outerOk_step HOK.out (by rw [← HN.out]; exact hlt)
      have hru := outerRun_step HK.out (by rw [← HN.out]; exact hlt)
      obtain ⟨j, hj⟩ : ∃ j, j = par l k := ⟨_, rfl⟩
      rw [← hj] at ex hst hru
      have hsrc : ∀ wq, Below w.heap.size w wq → wq.cell? ⟨bb, off + k, none⟩ = some (.int .i64 (j : Int)) := by
        intro wq hq
        have := hcell k hlt
        rw [← ex] at this
        exact (hq.cell (p := ⟨bb, off + k, none⟩) (World.block_lt_of_cell? w _ this)).trans this
      have hkj := hst.1
      have hjn : j < n := by omega
      have HRU := Lib.hid hru; have HST := Lib.hid hst.2; have HSRC := Lib.hid hsrc
      clear hcell hst hru hsrc ex hx hj HK HOK
      go_wp2_with (at_builtin; refine wp_append _ rfl _ _ rfl w.heap.size _ _ out [(k : Int)] rfl rfl (Own.below hown (Below.alloc1 _ _)) (Own.rd (Own.lit1 _ _ _ (Nat.le_refl _))) (by simp; omega) (by simp; omega) ?_; intro v' w2 hown2 hgr hbel2; have hbel3 := (hbel.alloc hsz _).trans hbel2; have hsrc2 := HSRC.out _ hbel3; clear hgr hbel2)
      go_roundw
      case rel => exact ⟨j + 1, f, _, by omega, by omega, by simp; omega, by go_num, hown2, hbel3, HRU.out, HST.out⟩
      case measure => simp [intOf]; omega
    · obtain rfl : k = n := by omega
      have hfin := outerRun_end HK.out (by rw [← HN.out]; omega) (by rw [← HN.out]; omega)
      rw [hfin] at hown
      clear hfin
      go_wp2
      go_ret2
      exact ⟨_, rfl, hown, hbel⟩

theorem spec_OuterArches (l : List Int) (w : World) (u : Value) (h : Rd w u l) (m : l.length ≤ 1048576) : Calls Try.prog 54 #[u] w (Gives w (res_OuterArches l) (ok_OuterArches l)) := by
  unfold res_OuterArches ok_OuterArches
  have hgood := ahGood_any u l w h m
  cases hg : goodB l with
  | true => exact specOuter_run l w u h hg
  | false =>
    rw [hg] at hgood
    have HA := Lib.hid hgood; clear hg hgood
    go_enter Try.func54, Try.ntmps54
    go_wp2_with (go_at_call 92; refine HA.out.mono ?_; rintro e w1 ⟨rfl, hb⟩)
    go_ret2
    exact ⟨_, rfl, Own.nil _ _, hb⟩

end Go.Proofs.Ytbinpefogecgmaa
