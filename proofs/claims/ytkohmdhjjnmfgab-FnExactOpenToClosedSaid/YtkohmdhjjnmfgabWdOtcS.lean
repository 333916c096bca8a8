/- OpenToClosed in the model. -/
import Derived.Test.YtkohmdhjjnmfgabWdOtc
import Derived.Test.YtkohmdhjjnmfgabShift
namespace Go.Proofs.Ytkohmdhjjnmfgab
open Go.RowKit
set_option linter.unusedSimpArgs false
set_option linter.unusedVariables false

theorem results_sotc (tmps : Array Value) (w : World) (g : Nat) (v1 v2 : Value) (ok : Bool) (hg : Box2 28 w g v1 v2) (h2 : tmps.getD 2 undef = .pointer (some ⟨g, 0, none⟩)) (h3 : tmps.getD 3 undef = .bool ok) :
    (results Try.f27 tmps).run Try.prog w = .ok (.tuple #[.agg #[v1, v2], .bool ok]) w := by
  have h2' : tmps[2]?.getD undef = .pointer (some ⟨g, 0, none⟩) := by simpa using h2
  have h3' : tmps[3]?.getD undef = .bool ok := by simpa using h3
  have hr : Try.f27.results = #[.cell 2 28, .tmp 3] := by kernel_rfl
  simp [results, hr, h2', h3', asAddr, run_loadMea w g v1 v2 hg]

theorem otc_not {l : List Int} (h : openB l = false ∨ l.length % 2 = 0 ∨ ¬ l.getD 0 0 = 0) : ok_OpenToClosed l = false := by
  cases e : ok_OpenToClosed l with
  | false => rfl
  | true =>
    exfalso
    have hc := ok_otc e
    unfold ok_OpenToClosed at e
    simp only [Bool.and_eq_true, decide_eq_true_eq] at e
    obtain ⟨a1, a2, a3⟩ := closed_snoc hc e.1 (by omega)
    rcases h with h | h | h
    · rw [h] at a1; cases a1
    · omega
    · exact h a2
theorem otc_is {l : List Int} (h : openB l = true) (hodd : l.length % 2 = 1) : ok_OpenToClosed l = closedB (otcL l) := by
  unfold ok_OpenToClosed
  rw [open_word h, decide_eq_true hodd]
  rfl

set_option maxHeartbeats 8000000 in
theorem spec_OpenToClosed (l : List Int) (w : World) (u : Value) (h : Rd w u l) (m : l.length ≤ 1048576) : Calls Try.prog 27 #[u] w (GivesM w (res1_OpenToClosed l) (res2_OpenToClosed l) (ok_OpenToClosed l)) := by
  unfold res1_OpenToClosed res2_OpenToClosed
  have hR := Box2.new 28 w (.slice none 0 0) (.slice none 0 0)
  have B1 : Below w.heap.size w (w.alloc (.cells #[.slice none 0 0, .slice none 0 0] 28)) := Below.alloc1 w _
  have hpo := peOpen_any u l _ (h.below B1) m
  have HRR := Lib.hid hR; have HB := Lib.hid B1; have H1 := Lib.hid (h.below B1)
  clear hR B1
  cases ho : openB l with
  | false =>
    rw [otc_not (.inl ho)]
    rw [ho] at hpo
    simp only [Bool.false_eq_true, if_false]
    have HR := Lib.hid hpo
    clear hpo ho h
    go_enter Try.func27, Try.ntmps27
    go_wp2_with fail
    refine HR.out.mono ?_
    rintro e w1 ⟨rfl, hb1⟩
    have HR1 := Lib.hid (HRR.out.below hb1); have HB1 := Lib.hid (Below.step HB.out hb1)
    have r0 := HR1.out.c0; have r1 := HR1.out.c1; have r2 := HR1.out.free 0; have r3 := HR1.out.free 1
    clear hb1
    go_wp2
    exact bodyPost_ret (results_sotc _ _ w.heap.size _ _ false ((HR1.out.set0 _).set1 _) rfl rfl) rfl ⟨_, _, rfl, Own.nil _ _, Own.nil _ _, ApartV.nil _, (HB1.out.setCell (p := ⟨w.heap.size, 0, none⟩) (Nat.le_refl _) _).setCell (p := ⟨w.heap.size, 1, none⟩) (Nat.le_refl _) _⟩
  | true =>
    rw [ho] at hpo
    have hl12 := word_len (open_word ho)
    by_cases hodd : l.length % 2 = 1
    · obtain ⟨bb, off, c, rfl, hlc, hcm, hcell⟩ := h.at (by omega)
      have c0 := hcell 0 (by omega)
      by_cases hz : l.getD 0 0 = 0
      · rw [otc_is ho hodd]
        rw [hz] at c0
        have hpc := fun v w h => peClosed_any v (otcL l) w h (by simp [otcL]; omega)
        have hpm := fun (hc : closedB (otcL l) = true) v w h => peMeander_any v (otcL l) w h (closed_isword hc) (closed_even hc).2 (closed_even hc).1
        have hown := fun w h => l1Own_any (.slice (some ⟨bb, off, none⟩) l.length c) l w h (by omega)
        have hlo : otcL l = l ++ [(l.length : Int)] := rfl
        generalize otcL l = L at *
        obtain ⟨n, hn⟩ : ∃ n, n = l.length := ⟨_, rfl⟩
        rw [← hn] at hpo H1 hlc hl12 hown hlo hodd ⊢
        unfold maxLen at hcm
        have g1 : ((n : Int) % 2 == 0) = false := by simp; omega
        have hn0 : (0 : Int) < (n : Int) := by omega
        have hn00 : 0 < n := by omega
        have g2 : ((n : Int) == 12) = false := by simp; omega
        have HN := Lib.hid hn
        have HR := Lib.hid hpo; have HPC := Lib.hid hpc; have HPM := Lib.hid hpm; have HO := Lib.hid hown; have HLO := Lib.hid hlo; have HC0 := Lib.hid c0
        have hbb : bb < w.heap.size := World.block_lt_of_cell? w _ c0
        clear hpo hpc hpm hown hlo hcell c0 h ho hn m hodd hz
        cases hcl : closedB L with
        | true =>
          have hm := HPM.out hcl
          have HM := Lib.hid hm
          have hpc2 := HPC.out
          rw [hcl] at hpc2
          have HPC2 := Lib.hid hpc2
          simp only [if_true]
          clear hm HPM hpc2 HPC hcl
          go_enter Try.func27, Try.ntmps27
          go_wp2_with fail
          refine HR.out.mono ?_
          rintro e w1 ⟨rfl, hb1⟩
          have HR1 := Lib.hid (HRR.out.below hb1); have HB1 := Lib.hid (Below.step HB.out hb1); have H11 := Lib.hid (H1.out.below hb1)
          have d0 : w1.cell? ⟨bb, off, none⟩ = some (.int .i64 0) := (HB1.out.cell (p := ⟨bb, off, none⟩) hbb).trans (by simpa using HC0.out)
          clear hb1
          go_wp2_with fail
          refine (HO.out _ H11.out).mono ?_
          rintro e w2 ⟨v2, rfl, ho2, hb2⟩
          obtain ⟨x2, y2, z2, rfl⟩ := ho2.form'
          have HO2 := Lib.hid ho2; have HB2 := Lib.hid (Below.step HB1.out hb2); have HR2 := Lib.hid (HR1.out.below hb2); have hs2 := hb2.size
          clear ho2 hb2 d0
          go_wp2_with (at_builtin; refine wp_append _ rfl _ _ rfl w1.heap.size _ _ l [(n : Int)] rfl rfl (Own.below HO2.out (Below.alloc1 _ _)) (Own.rd (Own.lit1 _ _ _ (Nat.le_refl _))) (by rw [← HN.out]; simp; omega) (by simp; omega) ?_; intro v3 w3 ho3 hgr hb3; rw [← HLO.out] at ho3; obtain ⟨x3, y3, z3, rfl⟩ := ho3.form'; have HO3 := Lib.hid ho3; have HB3 := Lib.hid ((HB2.out.alloc HB2.out.size (.cells #[.int .i64 (n : Int)] 3)).trans (hb3.mono HB1.out.size)); have HR3 : Hid (Box2 28 w3 w.heap.size (.slice none 0 0) (.slice none 0 0)) := (hb3.block w.heap.size HR1.out.lt).trans (HR2.out.below (Below.alloc1 w2 (.cells #[.int .i64 (n : Int)] 3))); clear ho3 hgr hb3)
          refine (HPC2.out _ _ HO3.out.rd).mono ?_
          rintro e w4 ⟨rfl, hb4⟩
          have HO4 := Lib.hid (HO3.out.below hb4); have HB4 := Lib.hid (Below.step HB3.out hb4); have HR4 := Lib.hid (HR3.out.below hb4)
          clear hb4
          go_wp2_with (go_at_call 45; refine (HM.out _ _ HO4.out.rd).mono ?_; rintro e w5 ⟨v1, v2, rfl, hp1, hp2, hap, hb5⟩; obtain ⟨x5, y5, z5, rfl⟩ := hp1.form'; obtain ⟨x6, y6, z6, rfl⟩ := hp2.form'; have HR5 := Lib.hid (HR4.out.below hb5); have r0 := HR5.out.c0; have r1 := HR5.out.c1; have r2 := HR5.out.free 0; have r3 := HR5.out.free 1; have HP1 := Lib.hid hp1; have HP2 := Lib.hid hp2; have HAP := Lib.hid hap; have HB5 := Lib.hid (Below.step HB4.out hb5); clear hp1 hp2 hap hb5)
          have hlt := HR4.out.lt
          have G2 : ∀ k, (Value.slice x5 y5 z5).ownBlock = some k → (some w.heap.size : Option Nat) ≠ some k := fun k hk e => by have h5 := (HP1.out.lt k hk).1; simp at e; omega
          have G3 : ∀ k, (Value.slice x6 y6 z6).ownBlock = some k → (some w.heap.size : Option Nat) ≠ some k := fun k hk e => by have h5 := (HP2.out.lt k hk).1; simp at e; omega
          exact bodyPost_ret (results_sotc _ _ w.heap.size _ _ true ((HR5.out.set0 _).set1 _) rfl rfl) rfl ⟨_, _, rfl, (HP1.out.grown (grownW_trans grownW_setCell grownW_setCell) G2).mono HB4.out.size, (HP2.out.grown (grownW_trans grownW_setCell grownW_setCell) G3).mono HB4.out.size, HAP.out, (HB5.out.setCell (p := ⟨w.heap.size, 0, none⟩) (Nat.le_refl _) _).setCell (p := ⟨w.heap.size, 1, none⟩) (Nat.le_refl _) _⟩
        | false =>
          have hpc2 := HPC.out
          rw [hcl] at hpc2
          have HPC2 := Lib.hid hpc2
          simp only [Bool.false_eq_true, if_false]
          clear HPM hpc2 HPC hcl
          go_enter Try.func27, Try.ntmps27
          go_wp2_with fail
          refine HR.out.mono ?_
          rintro e w1 ⟨rfl, hb1⟩
          have HR1 := Lib.hid (HRR.out.below hb1); have HB1 := Lib.hid (Below.step HB.out hb1); have H11 := Lib.hid (H1.out.below hb1)
          have d0 : w1.cell? ⟨bb, off, none⟩ = some (.int .i64 0) := (HB1.out.cell (p := ⟨bb, off, none⟩) hbb).trans (by simpa using HC0.out)
          clear hb1
          go_wp2_with fail
          refine (HO.out _ H11.out).mono ?_
          rintro e w2 ⟨v2, rfl, ho2, hb2⟩
          obtain ⟨x2, y2, z2, rfl⟩ := ho2.form'
          have HO2 := Lib.hid ho2; have HB2 := Lib.hid (Below.step HB1.out hb2); have HR2 := Lib.hid (HR1.out.below hb2); have hs2 := hb2.size
          clear ho2 hb2 d0
          go_wp2_with (at_builtin; refine wp_append _ rfl _ _ rfl w1.heap.size _ _ l [(n : Int)] rfl rfl (Own.below HO2.out (Below.alloc1 _ _)) (Own.rd (Own.lit1 _ _ _ (Nat.le_refl _))) (by rw [← HN.out]; simp; omega) (by simp; omega) ?_; intro v3 w3 ho3 hgr hb3; rw [← HLO.out] at ho3; obtain ⟨x3, y3, z3, rfl⟩ := ho3.form'; have HO3 := Lib.hid ho3; have HB3 := Lib.hid ((HB2.out.alloc HB2.out.size (.cells #[.int .i64 (n : Int)] 3)).trans (hb3.mono HB1.out.size)); have HR3 : Hid (Box2 28 w3 w.heap.size (.slice none 0 0) (.slice none 0 0)) := (hb3.block w.heap.size HR1.out.lt).trans (HR2.out.below (Below.alloc1 w2 (.cells #[.int .i64 (n : Int)] 3))); clear ho3 hgr hb3)
          refine (HPC2.out _ _ HO3.out.rd).mono ?_
          rintro e w4 ⟨rfl, hb4⟩
          have HB4 := Lib.hid (Below.step HB3.out hb4); have HR4 := Lib.hid (HR3.out.below hb4)
          have r0 := HR4.out.c0; have r1 := HR4.out.c1; have r2 := HR4.out.free 0; have r3 := HR4.out.free 1
          clear hb4
          go_wp2
          exact bodyPost_ret (results_sotc _ _ w.heap.size _ _ false ((HR4.out.set0 _).set1 _) rfl rfl) rfl ⟨_, _, rfl, Own.nil _ _, Own.nil _ _, ApartV.nil _, (HB4.out.setCell (p := ⟨w.heap.size, 0, none⟩) (Nat.le_refl _) _).setCell (p := ⟨w.heap.size, 1, none⟩) (Nat.le_refl _) _⟩
      · rw [otc_not (.inr (.inr hz))]
        obtain ⟨x, hx⟩ : ∃ x, l.getD 0 0 = x := ⟨_, rfl⟩
        rw [hx] at c0 hz
        have hne : (x != 0) = true := by simp; exact hz
        have hbb : bb < w.heap.size := World.block_lt_of_cell? w _ c0
        have HC0 := Lib.hid c0
        obtain ⟨n, hn⟩ : ∃ n, n = l.length := ⟨_, rfl⟩
        rw [← hn] at hpo H1 hlc hl12 hodd ⊢
        unfold maxLen at hcm
        have g1 : ((n : Int) % 2 == 0) = false := by simp; omega
        have hn0 : (0 : Int) < (n : Int) := by omega
        have hn00 : 0 < n := by omega
        have HR := Lib.hid hpo
        simp only [Bool.false_eq_true, if_false]
        clear hpo hcell c0 h ho hn m hodd hz hx
        go_enter Try.func27, Try.ntmps27
        go_wp2_with fail
        refine HR.out.mono ?_
        rintro e w1 ⟨rfl, hb1⟩
        have HR1 := Lib.hid (HRR.out.below hb1); have HB1 := Lib.hid (Below.step HB.out hb1)
        have r0 := HR1.out.c0; have r1 := HR1.out.c1; have r2 := HR1.out.free 0; have r3 := HR1.out.free 1
        have d0 : w1.cell? ⟨bb, off, none⟩ = some (.int .i64 x) := (HB1.out.cell (p := ⟨bb, off, none⟩) hbb).trans (by simpa using HC0.out)
        clear hb1
        go_wp2
        exact bodyPost_ret (results_sotc _ _ w.heap.size _ _ false ((HR1.out.set0 _).set1 _) rfl rfl) rfl ⟨_, _, rfl, Own.nil _ _, Own.nil _ _, ApartV.nil _, (HB1.out.setCell (p := ⟨w.heap.size, 0, none⟩) (Nat.le_refl _) _).setCell (p := ⟨w.heap.size, 1, none⟩) (Nat.le_refl _) _⟩
    · rw [otc_not (.inr (.inl (by omega)))]
      obtain ⟨a, c, rfl, hlc, hcm, hnc, hrd⟩ := h
      obtain ⟨n, hn⟩ : ∃ n, n = l.length := ⟨_, rfl⟩
      rw [← hn] at hpo H1 hlc hl12 hodd ⊢
      unfold maxLen at hcm
      have g1 : ((n : Int) % 2 == 0) = true := by simp; omega
      have HR := Lib.hid hpo
      simp only [Bool.false_eq_true, if_false]
      clear hpo hnc hrd ho hn m hodd
      go_enter Try.func27, Try.ntmps27
      go_wp2_with fail
      refine HR.out.mono ?_
      rintro e w1 ⟨rfl, hb1⟩
      have HR1 := Lib.hid (HRR.out.below hb1); have HB1 := Lib.hid (Below.step HB.out hb1)
      have r0 := HR1.out.c0; have r1 := HR1.out.c1; have r2 := HR1.out.free 0; have r3 := HR1.out.free 1
      clear hb1
      go_wp2
      exact bodyPost_ret (results_sotc _ _ w.heap.size _ _ false ((HR1.out.set0 _).set1 _) rfl rfl) rfl ⟨_, _, rfl, Own.nil _ _, Own.nil _ _, ApartV.nil _, (HB1.out.setCell (p := ⟨w.heap.size, 0, none⟩) (Nat.le_refl _) _).setCell (p := ⟨w.heap.size, 1, none⟩) (Nat.le_refl _) _⟩

end Go.Proofs.Ytkohmdhjjnmfgab
