/- MirrorState in the model. -/
import Derived.Test.YtnkkgbecdckigacStGood2
namespace Go.Proofs.Ytnkkgbecdckigac
open Go.RowKit
set_option linter.unusedSimpArgs false
set_option linter.unusedVariables false

def GivesSt (w : World) (t b : List Int) (c : Int) (ok : Bool) (e : Ending) (w' : World) : Prop := ∃ v1 v2, e = .returned (.tuple #[.agg #[v1, v2, .int .i64 c], .bool ok]) ∧ Own w.heap.size w' v1 t ∧ Own w.heap.size w' v2 b ∧ ApartS v1 v2 ∧ Below w.heap.size w w'
theorem ApartS.nil (v : Value) : ApartS (.slice none 0 0) v := fun k hk => by simp [Value.ownBlock] at hk
theorem run_loadSt (w : World) (g : Nat) (v1 v2 v3 : Value) (hg : Box3 26 w g v1 v2 v3) : (loadVar 26 ⟨g, 0, none⟩).run Try.prog w = .ok (.agg #[v1, v2, v3]) w :=
  run_loadVar_row w g _ _ #[v1, v2, v3] _ _ hg Try.underlying26 rfl (by rw [sta_info]; rfl)

def ok_MirrorState (u d : List Int) (c : Int) : Bool := stateB u d c
def res1_MirrorState (u d : List Int) (c : Int) : List Int := if stateB u d c then renU d else []
def res2_MirrorState (u d : List Int) (c : Int) : List Int := if stateB u d c then renD d u else []
def res3_MirrorState (u d : List Int) (c : Int) : Int := if stateB u d c then c else 0
theorem len_MirrorState (u d : List Int) (c : Int) : (res1_MirrorState u d c).length ≤ 1000000 ∧ (res2_MirrorState u d c).length ≤ 1000000 := by
  unfold res1_MirrorState res2_MirrorState
  cases h : stateB u d c with
  | false => simp
  | true =>
    have := state_facts h
    simp [renU_length, renD_length]; omega
theorem results_sms (tmps : Array Value) (w : World) (g : Nat) (v1 v2 v3 : Value) (ok : Bool) (hg : Box3 26 w g v1 v2 v3) (h2 : tmps.getD 2 undef = .pointer (some ⟨g, 0, none⟩)) (h3 : tmps.getD 3 undef = .bool ok) :
    (results Try.f12 tmps).run Try.prog w = .ok (.tuple #[.agg #[v1, v2, v3], .bool ok]) w := by
  have h2' : tmps[2]?.getD undef = .pointer (some ⟨g, 0, none⟩) := by simpa using h2
  have h3' : tmps[3]?.getD undef = .bool ok := by simpa using h3
  have hr : Try.f12.results = #[.cell 2 26, .tmp 3] := by kernel_rfl
  simp [results, hr, h2', h3', asAddr, run_loadSt w g v1 v2 v3 hg]

set_option maxHeartbeats 4000000 in
theorem spec_MirrorState (u d : List Int) (c : Int) (w : World) (v1 v2 : Value) (h1 : Rd w v1 u) (h2 : Rd w v2 d) (_ : Wf u) (_ : Wf d) :
    Calls Try.prog 12 #[.agg #[v1, v2, .int .i64 c]] w (GivesSt w (res1_MirrorState u d c) (res2_MirrorState u d c) (res3_MirrorState u d c) (ok_MirrorState u d c)) := by
  unfold res1_MirrorState res2_MirrorState res3_MirrorState ok_MirrorState
  have hA0 := Box3.new 26 w v1 v2 (.int .i64 c)
  have hA := hA0.below (Below.alloc1 _ (.cells #[.slice none 0 0, .slice none 0 0, .int .i64 0] 26))
  have hR := Box3.new 26 (w.alloc (.cells #[v1, v2, .int .i64 c] 26)) (.slice none 0 0) (.slice none 0 0) (.int .i64 0)
  rw [World.size_alloc] at hR
  have B2 := Below.step (Below.alloc1 w (.cells #[v1, v2, .int .i64 c] 26)) (Below.alloc1 _ (.cells #[.slice none 0 0, .slice none 0 0, .int .i64 0] 26))
  have hg := stGood_any v1 v2 u d c _ (h1.below B2) (h2.below B2)
  have k0 := hA.c0; have k1 := hA.c1; have k2 := hA.c2
  have HB := Lib.hid B2; have HA := Lib.hid hA; have HR := Lib.hid hR; have H1 := Lib.hid (h1.below B2); have H2 := Lib.hid (h2.below B2)
  clear hA0 hA hR B2 h1 h2
  cases hs : stateB u d c with
  | false =>
    rw [hs] at hg
    have HG := Lib.hid hg
    simp only [Bool.false_eq_true, if_false]
    clear hg hs
    go_enter Try.func12, Try.ntmps12
    go_wp2_with fail
    refine HG.out.mono ?_
    rintro e w1 ⟨rfl, hb1⟩
    have HR1 := Lib.hid (HR.out.below hb1); have HB1 := Lib.hid (Below.step HB.out hb1)
    have r0 := HR1.out.c0; have r1 := HR1.out.c1; have r2 := HR1.out.c2; have f0 := HR1.out.free 0; have f1 := HR1.out.free 1; have f2 := HR1.out.free 2
    clear hb1 k0 k1 k2
    go_wp2
    exact bodyPost_ret (results_sms _ _ (w.heap.size + 1) _ _ _ false (((HR1.out.set0 _).set1 _).set2 _) rfl rfl) rfl ⟨_, _, rfl, Own.nil _ _, Own.nil _ _, ApartS.nil _, ((HB1.out.setCell (p := ⟨w.heap.size + 1, 0, none⟩) (Nat.le_succ _) _).setCell (p := ⟨w.heap.size + 1, 1, none⟩) (Nat.le_succ _) _).setCell (p := ⟨w.heap.size + 1, 2, none⟩) (Nat.le_succ _) _⟩
  | true =>
    rw [hs] at hg
    have HG := Lib.hid hg
    simp only [if_true]
    obtain ⟨l1, l2, _⟩ := state_facts hs
    have hrn := fun w h2 h1 => stRename_full v2 v1 d u w h2 h1 (by omega) (by omega)
    have HRN := Lib.hid hrn
    clear hg hs hrn l1 l2
    go_enter Try.func12, Try.ntmps12
    go_wp2_with fail
    refine HG.out.mono ?_
    rintro e w1 ⟨rfl, hb1⟩
    have HR1 := Lib.hid (HR.out.below hb1); have HA1 := Lib.hid (HA.out.below hb1); have HB1 := Lib.hid (Below.step HB.out hb1); have H11 := Lib.hid (H1.out.below hb1); have H21 := Lib.hid (H2.out.below hb1)
    have j0 := HA1.out.c0; have j1 := HA1.out.c1
    clear hb1 k0 k1 k2
    go_wp2_with fail
    refine (HRN.out _ H21.out H11.out).mono ?_
    rintro e w2 ⟨x1, x2, rfl, ho1, ho2, hb2, hap⟩
    obtain ⟨f1, f2, f3, rfl⟩ := ho1.form'
    obtain ⟨f4, f5, f6, rfl⟩ := ho2.form'
    have HR2 := Lib.hid (HR1.out.below hb2); have HB2 := Lib.hid (Below.step HB1.out hb2); have HO1 := Lib.hid ho1; have HO2 := Lib.hid ho2; have HAP := Lib.hid hap
    have q2 := (HA1.out.below hb2).c2
    have r0 := HR2.out.c0; have r1 := HR2.out.c1; have r2 := HR2.out.c2; have g0 := HR2.out.free 0; have g1 := HR2.out.free 1; have g2 := HR2.out.free 2
    have hlt := HR1.out.lt
    clear ho1 ho2 hb2 hap j0 j1
    go_wp2
    have G1 : ∀ k, (Value.slice f1 f2 f3).ownBlock = some k → (some (w.heap.size + 1) : Option Nat) ≠ some k := fun k hk e => by have h5 := (HO1.out.lt k hk).1; simp at e; omega
    have G2 : ∀ k, (Value.slice f4 f5 f6).ownBlock = some k → (some (w.heap.size + 1) : Option Nat) ≠ some k := fun k hk e => by have h5 := (HO2.out.lt k hk).1; simp at e; omega
    exact bodyPost_ret (results_sms _ _ (w.heap.size + 1) _ _ _ true (((HR2.out.set0 _).set1 _).set2 _) rfl rfl) rfl ⟨_, _, rfl, (HO1.out.grown (grownS_trans (grownS_trans grownS_setCell grownS_setCell) grownS_setCell) G1).mono HB1.out.size, (HO2.out.grown (grownS_trans (grownS_trans grownS_setCell grownS_setCell) grownS_setCell) G2).mono HB1.out.size, HAP.out, ((HB2.out.setCell (p := ⟨w.heap.size + 1, 0, none⟩) (Nat.le_succ _) _).setCell (p := ⟨w.heap.size + 1, 1, none⟩) (Nat.le_succ _) _).setCell (p := ⟨w.heap.size + 1, 2, none⟩) (Nat.le_succ _) _⟩

end Go.Proofs.Ytnkkgbecdckigac
