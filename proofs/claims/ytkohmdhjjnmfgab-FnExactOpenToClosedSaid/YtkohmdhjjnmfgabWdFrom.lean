/- FromPermutation: the program's function and the model's. -/
import Derived.Test.YtkohmdhjjnmfgabWdMeander
import Derived.Test.YtkohmdhjjnmfgabWdPeM
import Derived.Test.YtkohmdhjjnmfgabWdPos
namespace Go.Proofs.Ytkohmdhjjnmfgab
open Go.RowKit
set_option linter.unusedSimpArgs false
set_option linter.unusedVariables false

theorem closed_even {l : List Int} (h : closedB l = true) : 2 ≤ l.length ∧ l.length % 2 = 0 := by
  unfold closedB closesB at h
  simp only [Bool.and_eq_true, decide_eq_true_eq] at h
  exact ⟨h.2.1, h.2.2.1⟩

def ok_FromPermutation (l : List Int) : Bool := closedB l
def res1_FromPermutation (l : List Int) : List Int := if closedB l then mateL l 0 else []
def res2_FromPermutation (l : List Int) : List Int := if closedB l then mateL l 1 else []
theorem len_FromPermutation (l : List Int) : (res1_FromPermutation l).length ≤ 1000000 ∧ (res2_FromPermutation l).length ≤ 1000000 := by
  unfold res1_FromPermutation res2_FromPermutation
  cases h : closedB l with
  | false => simp
  | true =>
    have := closed_len h
    simp [mateL_length]; omega

theorem results_fp (tmps : Array Value) (w : World) (g : Nat) (v1 v2 : Value) (ok : Bool) (hg : Box2 28 w g v1 v2) (h2 : tmps.getD 2 undef = .pointer (some ⟨g, 0, none⟩)) (h3 : tmps.getD 3 undef = .bool ok) :
    (results Try.f25 tmps).run Try.prog w = .ok (.tuple #[.agg #[v1, v2], .bool ok]) w := by
  have h2' : tmps[2]?.getD undef = .pointer (some ⟨g, 0, none⟩) := by simpa using h2
  have h3' : tmps[3]?.getD undef = .bool ok := by simpa using h3
  have hr : Try.f25.results = #[.cell 2 28, .tmp 3] := by kernel_rfl
  simp [results, hr, h2', h3', asAddr, run_loadMea w g v1 v2 hg]

set_option maxHeartbeats 4000000 in
theorem impl_FromPermutation (l : List Int) (w : World) (u : Value) (h : Rd w u l) (m : l.length ≤ 1048576) : Calls Try.prog 25 #[u] w (GivesM w (res1_FromPermutation l) (res2_FromPermutation l) (ok_FromPermutation l)) := by
  unfold res1_FromPermutation res2_FromPermutation ok_FromPermutation
  have hR := Box2.new 28 w (.slice none 0 0) (.slice none 0 0)
  have B1 : Below w.heap.size w (w.alloc (.cells #[.slice none 0 0, .slice none 0 0] 28)) := Below.alloc1 w _
  have hrd := readClosed_any u l _ (h.below B1)
  have HRR := Lib.hid hR; have HB := Lib.hid B1
  clear hR B1 h
  cases hg : closedB l with
  | false =>
    rw [hg, selL_no, selI_no] at hrd
    simp only [Bool.false_eq_true, if_false]
    have HR := Lib.hid hrd; have HI := Lib.hid zero12_length
    clear hrd hg
    go_enter Try.func25, Try.ntmps25
    go_wp2_with fail
    refine HR.out.mono ?_
    rintro e w1 ⟨rfl, hb1⟩
    have HR1 := Lib.hid (HRR.out.below hb1); have HB1 := Lib.hid (Below.step HB.out hb1)
    clear hb1
    go_wp2_with ((with_reducible refine wp_storeNewWd rfl (.tmp 4) (.tmp 9) rfl w1 [] zero12 (Nat.zero_le _) HI.out rfl rfl ?_); intro w2 hs2 hb2; have HR2 := Lib.hid (HR1.out.below hb2); have HB2 := Lib.hid (Below.step HB1.out hb2); have r0 := HR2.out.c0; have r1 := HR2.out.c1; have r2 := HR2.out.free 0; have r3 := HR2.out.free 1; clear hs2)
    exact bodyPost_ret (results_fp _ _ w.heap.size _ _ false ((HR2.out.set0 _).set1 _) rfl rfl) rfl ⟨_, _, rfl, Own.nil _ _, Own.nil _ _, ApartV.nil _, (HB2.out.setCell (p := ⟨w.heap.size, 0, none⟩) (Nat.le_refl _) _).setCell (p := ⟨w.heap.size, 1, none⟩) (Nat.le_refl _) _⟩
  | true =>
    rw [hg, selL_yes, selI_yes] at hrd
    simp only [if_true]
    have hl := closed_len hg
    have hwm := fun w => wordMeander_any l w (closed_isword hg) (closed_even hg).2
    have HR := Lib.hid hrd; have HI : Hid ((idxK l l.length).length = 12) := idxK_length _ _; have HL := Lib.hid hl; have HM := Lib.hid hwm
    clear hrd hg hl hwm
    go_enter Try.func25, Try.ntmps25
    go_wp2_with fail
    refine HR.out.mono ?_
    rintro e w1 ⟨rfl, hb1⟩
    have HR1 := Lib.hid (HRR.out.below hb1); have HB1 := Lib.hid (Below.step HB.out hb1)
    clear hb1
    go_wp2_with (first
      | ((with_reducible refine wp_storeNewWd rfl (.tmp 4) (.tmp 9) rfl w1 l (idxK l l.length) HL.out HI.out rfl rfl ?_); intro w2 hs2 hb2; have HW2 := Lib.hid hs2; have HR2 := Lib.hid (HR1.out.below hb2); have HB2 := Lib.hid (Below.step HB1.out hb2); clear hs2)
      | (with_reducible refine wp_loadWd rfl (.tmp 4) rfl w1.heap.size l (idxK l l.length) HL.out HI.out rfl HW2.out ?_)
      | (go_at_call 47; refine (HM.out _).mono ?_; rintro e w3 ⟨v1, v2, rfl, ho1, ho2, hap, hb3⟩; obtain ⟨x1, y1, z1, rfl⟩ := ho1.form'; obtain ⟨x2, y2, z2, rfl⟩ := ho2.form'; have HR3 := Lib.hid (HR2.out.below hb3); have r0 := HR3.out.c0; have r1 := HR3.out.c1; have r2 := HR3.out.free 0; have r3 := HR3.out.free 1; have HO1 := Lib.hid ho1; have HO2 := Lib.hid ho2; have HAP := Lib.hid hap; have HB3 := Lib.hid (Below.step HB2.out hb3); clear ho1 ho2 hap hb3))
    have hlt := HR2.out.lt
    have G2 : ∀ k, (Value.slice x1 y1 z1).ownBlock = some k → (some w.heap.size : Option Nat) ≠ some k := fun k hk e => by have h5 := (HO1.out.lt k hk).1; simp at e; omega
    have G3 : ∀ k, (Value.slice x2 y2 z2).ownBlock = some k → (some w.heap.size : Option Nat) ≠ some k := fun k hk e => by have h5 := (HO2.out.lt k hk).1; simp at e; omega
    exact bodyPost_ret (results_fp _ _ w.heap.size _ _ true ((HR3.out.set0 _).set1 _) rfl rfl) rfl ⟨_, _, rfl, (HO1.out.grown (grownW_trans grownW_setCell grownW_setCell) G2).mono HB2.out.size, (HO2.out.grown (grownW_trans grownW_setCell grownW_setCell) G3).mono HB2.out.size, HAP.out, (HB3.out.setCell (p := ⟨w.heap.size, 0, none⟩) (Nat.le_refl _) _).setCell (p := ⟨w.heap.size, 1, none⟩) (Nat.le_refl _) _⟩

theorem results_sfp (tmps : Array Value) (w : World) (g : Nat) (v1 v2 : Value) (ok : Bool) (hg : Box2 28 w g v1 v2) (h2 : tmps.getD 2 undef = .pointer (some ⟨g, 0, none⟩)) (h3 : tmps.getD 3 undef = .bool ok) :
    (results Try.f23 tmps).run Try.prog w = .ok (.tuple #[.agg #[v1, v2], .bool ok]) w := by
  have h2' : tmps[2]?.getD undef = .pointer (some ⟨g, 0, none⟩) := by simpa using h2
  have h3' : tmps[3]?.getD undef = .bool ok := by simpa using h3
  have hr : Try.f23.results = #[.cell 2 28, .tmp 3] := by kernel_rfl
  simp [results, hr, h2', h3', asAddr, run_loadMea w g v1 v2 hg]

set_option maxHeartbeats 4000000 in
theorem spec_FromPermutation (l : List Int) (w : World) (u : Value) (h : Rd w u l) (m : l.length ≤ 1048576) : Calls Try.prog 23 #[u] w (GivesM w (res1_FromPermutation l) (res2_FromPermutation l) (ok_FromPermutation l)) := by
  unfold res1_FromPermutation res2_FromPermutation ok_FromPermutation
  have hR := Box2.new 28 w (.slice none 0 0) (.slice none 0 0)
  have B1 : Below w.heap.size w (w.alloc (.cells #[.slice none 0 0, .slice none 0 0] 28)) := Below.alloc1 w _
  have hpc := peClosed_any u l _ (h.below B1) m
  have HRR := Lib.hid hR; have HB := Lib.hid B1; have H1 := Lib.hid (h.below B1)
  clear hR B1 h
  cases hg : closedB l with
  | false =>
    rw [hg] at hpc
    simp only [Bool.false_eq_true, if_false]
    have HR := Lib.hid hpc
    clear hpc hg
    go_enter Try.func23, Try.ntmps23
    go_wp2_with fail
    refine HR.out.mono ?_
    rintro e w1 ⟨rfl, hb1⟩
    have HR1 := Lib.hid (HRR.out.below hb1); have HB1 := Lib.hid (Below.step HB.out hb1)
    have r0 := HR1.out.c0; have r1 := HR1.out.c1; have r2 := HR1.out.free 0; have r3 := HR1.out.free 1
    clear hb1
    go_wp2
    exact bodyPost_ret (results_sfp _ _ w.heap.size _ _ false ((HR1.out.set0 _).set1 _) rfl rfl) rfl ⟨_, _, rfl, Own.nil _ _, Own.nil _ _, ApartV.nil _, (HB1.out.setCell (p := ⟨w.heap.size, 0, none⟩) (Nat.le_refl _) _).setCell (p := ⟨w.heap.size, 1, none⟩) (Nat.le_refl _) _⟩
  | true =>
    rw [hg] at hpc
    simp only [if_true]
    have hpm := fun w h => peMeander_any u l w h (closed_isword hg) (closed_even hg).2 (closed_even hg).1
    have HR := Lib.hid hpc; have HM := Lib.hid hpm
    clear hpc hg hpm
    go_enter Try.func23, Try.ntmps23
    go_wp2_with fail
    refine HR.out.mono ?_
    rintro e w1 ⟨rfl, hb1⟩
    have HR1 := Lib.hid (HRR.out.below hb1); have HB1 := Lib.hid (Below.step HB.out hb1); have H11 := Lib.hid (H1.out.below hb1)
    clear hb1
    go_wp2_with (go_at_call 45; refine (HM.out _ H11.out).mono ?_; rintro e w3 ⟨v1, v2, rfl, ho1, ho2, hap, hb3⟩; obtain ⟨x1, y1, z1, rfl⟩ := ho1.form'; obtain ⟨x2, y2, z2, rfl⟩ := ho2.form'; have HR3 := Lib.hid (HR1.out.below hb3); have r0 := HR3.out.c0; have r1 := HR3.out.c1; have r2 := HR3.out.free 0; have r3 := HR3.out.free 1; have HO1 := Lib.hid ho1; have HO2 := Lib.hid ho2; have HAP := Lib.hid hap; have HB3 := Lib.hid (Below.step HB1.out hb3); clear ho1 ho2 hap hb3)
    have hlt := HR1.out.lt
    have G2 : ∀ k, (Value.slice x1 y1 z1).ownBlock = some k → (some w.heap.size : Option Nat) ≠ some k := fun k hk e => by have h5 := (HO1.out.lt k hk).1; simp at e; omega
    have G3 : ∀ k, (Value.slice x2 y2 z2).ownBlock = some k → (some w.heap.size : Option Nat) ≠ some k := fun k hk e => by have h5 := (HO2.out.lt k hk).1; simp at e; omega
    exact bodyPost_ret (results_sfp _ _ w.heap.size _ _ true ((HR3.out.set0 _).set1 _) rfl rfl) rfl ⟨_, _, rfl, (HO1.out.grown (grownW_trans grownW_setCell grownW_setCell) G2).mono HB1.out.size, (HO2.out.grown (grownW_trans grownW_setCell grownW_setCell) G3).mono HB1.out.size, HAP.out, (HB3.out.setCell (p := ⟨w.heap.size, 0, none⟩) (Nat.le_refl _) _).setCell (p := ⟨w.heap.size, 1, none⟩) (Nat.le_refl _) _⟩

end Go.Proofs.Ytkohmdhjjnmfgab
