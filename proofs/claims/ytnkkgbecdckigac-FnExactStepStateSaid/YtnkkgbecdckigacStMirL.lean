/- MirrorState in the program. -/
import Derived.Test.YtnkkgbecdckigacStMirF
import Derived.Test.YtnkkgbecdckigacStMirI
namespace Go.Proofs.Ytnkkgbecdckigac
open Go.RowKit
set_option linter.unusedSimpArgs false
set_option linter.unusedVariables false

theorem results_ims (tmps : Array Value) (w : World) (g : Nat) (v1 v2 v3 : Value) (ok : Bool) (hg : Box3 26 w g v1 v2 v3) (h2 : tmps.getD 2 undef = .pointer (some ⟨g, 0, none⟩)) (h3 : tmps.getD 3 undef = .bool ok) :
    (results Try.f14 tmps).run Try.prog w = .ok (.tuple #[.agg #[v1, v2, v3], .bool ok]) w := by
  have h2' : tmps[2]?.getD undef = .pointer (some ⟨g, 0, none⟩) := by simpa using h2
  have h3' : tmps[3]?.getD undef = .bool ok := by simpa using h3
  have hr : Try.f14.results = #[.cell 2 26, .tmp 3] := by kernel_rfl
  simp [results, hr, h2', h3', asAddr, run_loadSt w g v1 v2 v3 hg]
theorem fr0_lt (w : World) : w.heap.size < (w.alloc (.cells #[.int .i64 0, .int .i64 0, .int .i64 0, .int .i64 0, .int .i64 0, .int .i64 0, .int .i64 0, .int .i64 0, .int .i64 0, .int .i64 0, .int .i64 0, .int .i64 0, .int .i64 0, .int .i64 0, .int .i64 0] 66)).heap.size := by simp

set_option maxHeartbeats 4000000 in
theorem impl_MirrorState (u d : List Int) (c : Int) (w : World) (u1 u2 : Value) (h1 : Rd w u1 u) (h2 : Rd w u2 d) (wu : Wf u) (wd : Wf d) :
    Calls Try.prog 14 #[.agg #[u1, u2, .int .i64 c]] w (GivesSt w (res1_MirrorState u d c) (res2_MirrorState u d c) (res3_MirrorState u d c) (ok_MirrorState u d c)) := by
  unfold res1_MirrorState res2_MirrorState res3_MirrorState ok_MirrorState
  have hA0 := Box3.new 26 w u1 u2 (.int .i64 c)
  have hA := hA0.below (Below.alloc1 _ (.cells #[.slice none 0 0, .slice none 0 0, .int .i64 0] 26))
  have hR := Box3.new 26 (w.alloc (.cells #[u1, u2, .int .i64 c] 26)) (.slice none 0 0) (.slice none 0 0) (.int .i64 0)
  rw [World.size_alloc] at hR
  have B2 := Below.step (Below.alloc1 w (.cells #[u1, u2, .int .i64 c] 26)) (Below.alloc1 _ (.cells #[.slice none 0 0, .slice none 0 0, .int .i64 0] 26))
  have hrs := readState_any u1 u2 u d c _ (h1.below B2) (h2.below B2) wu wd
  have k0 := hA.c0; have k1 := hA.c1; have k2 := hA.c2
  have HB := Lib.hid B2; have HR := Lib.hid hR
  clear hA0 hA hR B2
  cases hs : stateB u d c with
  | false =>
    rw [hs] at hrs
    simp only [Bool.false_eq_true, if_false] at hrs ⊢
    have HRS := Lib.hid hrs
    obtain ⟨a1, c1, rfl, _⟩ := h1
    obtain ⟨a2, c2, rfl, _⟩ := h2
    clear hrs hs wu wd
    go_enter Try.func14, Try.ntmps14
    go_wp2_with (first
      | (go_at_call 46; ((with_reducible refine HRS.out.mono ?_); rintro e w1 ⟨rfl, hb1⟩; have HR1 := Lib.hid (HR.out.below hb1); have HB1 := Lib.hid (Below.step HB.out hb1); clear hb1 k0 k1 k2))
      | ((with_reducible refine wp_storeFr rfl (.tmp 4) (.tmp 9) rfl _ [] [] [] [] 0 0 (Nat.zero_le _) (Nat.zero_le _) (Nat.zero_le _) (Nat.zero_le _) rfl rfl (fr_zero _) ?_); intro w2 hs2 hg2; have HR2 := Lib.hid ((HR1.out.below (Below.alloc1 _ _)).grown hg2 (by have := HR1.out.lt; simp; omega)); have HB2 := Lib.hid ((Below.step HB1.out (Below.alloc1 _ _)).grown hg2 (Nat.le_of_lt (Nat.lt_of_le_of_lt HB1.out.size (fr0_lt w1))) (fun k hk => by have := HB1.out.size; simp at hk; omega)); have r0 := HR2.out.c0; have r1 := HR2.out.c1; have r2 := HR2.out.c2; have f0 := HR2.out.free 0; have f1 := HR2.out.free 1; have f2 := HR2.out.free 2; clear hs2 hg2))
    exact bodyPost_ret (results_ims _ _ (w.heap.size + 1) _ _ _ false (((HR2.out.set0 _).set1 _).set2 _) rfl rfl) rfl ⟨_, _, rfl, Own.nil _ _, Own.nil _ _, ApartS.nil _, ((HB2.out.setCell (p := ⟨w.heap.size + 1, 0, none⟩) (Nat.le_succ _) _).setCell (p := ⟨w.heap.size + 1, 1, none⟩) (Nat.le_succ _) _).setCell (p := ⟨w.heap.size + 1, 2, none⟩) (Nat.le_succ _) _⟩
  | true =>
    rw [hs] at hrs
    simp only [if_true] at hrs ⊢
    obtain ⟨l1, l2, _⟩ := state_facts hs
    have hmr := fun w => mirrored_any u d c w l1 l2 wu wd
    have hst := fun w => frState_any (renU d) (renD d u) c w (by rw [renU_length]; exact l2) (by rw [renD_length]; exact l1)
    have HRS := Lib.hid hrs; have HMR := Lib.hid hmr; have HST := Lib.hid hst; have L1 := Lib.hid l1; have L2 := Lib.hid l2
    obtain ⟨a1, c1, rfl, _⟩ := h1
    obtain ⟨a2, c2, rfl, _⟩ := h2
    generalize renU d = ru at HMR HST ⊢
    generalize renD d u = rd at HMR HST ⊢
    clear hrs hs wu wd hmr hst l1 l2
    go_enter Try.func14, Try.ntmps14
    go_wp2_with (first
      | (go_at_call 46; ((with_reducible refine HRS.out.mono ?_); rintro e w1 ⟨rfl, hb1⟩; have HR1 := Lib.hid (HR.out.below hb1); have HB1 := Lib.hid (Below.step HB.out hb1); clear hb1 k0 k1 k2))
      | ((with_reducible refine wp_storeFr rfl (.tmp 4) (.tmp 9) rfl _ u d [] [] c 0 L1.out L2.out (Nat.zero_le _) (Nat.zero_le _) rfl rfl (fr_zero _) ?_); intro w2 hs2 hg2; have HS2 := Lib.hid hs2; have HR2 := Lib.hid ((HR1.out.below (Below.alloc1 _ _)).grown hg2 (by have := HR1.out.lt; simp; omega)); have HB2 := Lib.hid ((Below.step HB1.out (Below.alloc1 _ _)).grown hg2 (Nat.le_of_lt (Nat.lt_of_le_of_lt HB1.out.size (fr0_lt w1))) (fun k hk => by have := HB1.out.size; simp at hk; omega)); clear hs2 hg2)
      | (with_reducible refine wp_loadFr rfl (.tmp 4) rfl w1.heap.size u d c L1.out L2.out rfl HS2.out ?_)
      | (go_at_call 47; ((with_reducible refine (HMR.out _).mono ?_); rintro e w3 ⟨rfl, hb3⟩; have HR3 := Lib.hid (HR2.out.below hb3); have HB3 := Lib.hid (Below.step HB2.out hb3); clear hb3))
      | (go_at_call 48; ((with_reducible refine (HST.out _).mono ?_); rintro e w4 ⟨x1, x2, rfl, ho1, ho2, hap, hb4⟩; obtain ⟨f1, f2, f3, rfl⟩ := ho1.form'; obtain ⟨f4, f5, f6, rfl⟩ := ho2.form'; have HR4 := Lib.hid (HR3.out.below hb4); have HB4 := Lib.hid (Below.step HB3.out hb4); have HO1 := Lib.hid ho1; have HO2 := Lib.hid ho2; have HAP := Lib.hid hap; have HLT := Lib.hid HR3.out.lt; have r0 := HR4.out.c0; have r1 := HR4.out.c1; have r2 := HR4.out.c2; have g0 := HR4.out.free 0; have g1 := HR4.out.free 1; have g2 := HR4.out.free 2; clear ho1 ho2 hb4 hap)))
    have G1 : ∀ k, (Value.slice f1 f2 f3).ownBlock = some k → (some (w.heap.size + 1) : Option Nat) ≠ some k := fun k hk e => by have h5 := (HO1.out.lt k hk).1; have := HLT.out; simp at e; omega
    have G2 : ∀ k, (Value.slice f4 f5 f6).ownBlock = some k → (some (w.heap.size + 1) : Option Nat) ≠ some k := fun k hk e => by have h5 := (HO2.out.lt k hk).1; have := HLT.out; simp at e; omega
    exact bodyPost_ret (results_ims _ _ (w.heap.size + 1) _ _ _ true (((HR4.out.set0 _).set1 _).set2 _) rfl rfl) rfl ⟨_, _, rfl, (HO1.out.grown (grownS_trans (grownS_trans grownS_setCell grownS_setCell) grownS_setCell) G1).mono HB3.out.size, (HO2.out.grown (grownS_trans (grownS_trans grownS_setCell grownS_setCell) grownS_setCell) G2).mono HB3.out.size, HAP.out, ((HB4.out.setCell (p := ⟨w.heap.size + 1, 0, none⟩) (Nat.le_succ _) _).setCell (p := ⟨w.heap.size + 1, 1, none⟩) (Nat.le_succ _) _).setCell (p := ⟨w.heap.size + 1, 2, none⟩) (Nat.le_succ _) _⟩

end Go.Proofs.Ytnkkgbecdckigac
