/- TurnMeander: the program's function and the model's. -/
import Derived.Test.YtbinpefogecgmabFlip
import Derived.Test.YtbinpefogecgmabTurn
namespace Go.Proofs.Ytbinpefogecgmab
open Go.RowKit
set_option linter.unusedSimpArgs false
set_option linter.unusedVariables false

def ok_TurnMeander (t b : List Int) (x : Int) : Bool := pairOk t b && inB x (-100) 100
def res1_TurnMeander (t b : List Int) (x : Int) : List Int := if ok_TurnMeander t b x then turnL t x else []
def res2_TurnMeander (t b : List Int) (x : Int) : List Int := if ok_TurnMeander t b x then turnL b x else []
theorem len_TurnMeander (t b : List Int) (x : Int) : (res1_TurnMeander t b x).length ≤ 1000000 ∧ (res2_TurnMeander t b x).length ≤ 1000000 := by
  unfold res1_TurnMeander res2_TurnMeander ok_TurnMeander
  cases h : pairOk t b with
  | false => simp
  | true =>
    obtain ⟨g1, g2, _⟩ := pairOk_facts h
    have := good_len' g1; have := good_len' g2
    cases inB x (-100) 100 <;> simp [turnL_length] <;> omega

theorem results_cbt (tmps : Array Value) (w : World) (g : Nat) (v1 v2 : Value) (ok : Bool) (hg : Box2 26 w g v1 v2) (h2 : tmps.getD 4 undef = .pointer (some ⟨g, 0, none⟩)) (h3 : tmps.getD 5 undef = .bool ok) :
    (results Try.f59 tmps).run Try.prog w = .ok (.tuple #[.agg #[v1, v2], .bool ok]) w := by
  have h2' : tmps[4]?.getD undef = .pointer (some ⟨g, 0, none⟩) := by simpa using h2
  have h3' : tmps[5]?.getD undef = .bool ok := by simpa using h3
  have hr : Try.f59.results = #[.cell 4 26, .tmp 5] := by kernel_rfl
  simp [results, hr, h2', h3', asAddr, run_loadMea w g v1 v2 hg]

set_option maxHeartbeats 1000000 in
theorem turnFn_any (l : List Int) (x : Int) (g : Nat) (w : World) (u : Value) (h : Rd w u l) (m : l.length ≤ 1048576) (hx : w.cell? ⟨g, 0, none⟩ = some (.int .i64 x)) :
    Calls Try.prog 60 #[u, .pointer (some ⟨g, 0, none⟩)] w (Gives w (res_TurnSystem l x) (ok_TurnSystem l x)) := by
  have hc := Lib.hid (impl_TurnSystem l x w u h m)
  clear h m
  go_enter Try.func60, Try.ntmps60
  go_wp2_with fail
  refine hc.out.mono ?_
  rintro e w1 ⟨v, rfl, ho, hb⟩
  go_wp2
  go_ret2
  exact ⟨_, rfl, ho, hb⟩

set_option maxHeartbeats 4000000 in
theorem changeBoth_turn (t b : List Int) (x : Int) (g : Nat) (w : World) (u1 u2 : Value) (h1 : Rd w u1 t) (h2 : Rd w u2 b) (m1 : t.length ≤ 1048576) (m2 : b.length ≤ 1048576) (hx : w.cell? ⟨g, 0, none⟩ = some (.int .i64 x)) :
    Calls Try.prog 59 #[.agg #[u1, u2], .func (.func 60) #[] #[.pointer (some ⟨g, 0, none⟩)]] w (GivesM w (res1_TurnMeander t b x) (res2_TurnMeander t b x) (ok_TurnMeander t b x)) := by
  unfold res1_TurnMeander res2_TurnMeander ok_TurnMeander
  have hA := Box2.below (Box2.new 26 w u1 u2) (Below.alloc1 _ (.cells #[.slice none 0 0, .slice none 0 0] 26))
  have hR := Box2.new 26 (w.alloc (.cells #[u1, u2] 26)) (.slice none 0 0) (.slice none 0 0)
  rw [World.size_alloc] at hR
  have B2 := Below.step (Below.alloc1 w (.cells #[u1, u2] 26)) (Below.alloc1 _ (.cells #[.slice none 0 0, .slice none 0 0] 26))
  have k0 := hA.c0; have k1 := hA.c1
  have HA := Lib.hid hA; have HR := Lib.hid hR; have HB := Lib.hid B2
  have hrd := impl_IsPair t b _ u1 u2 (h1.below B2) (h2.below B2) m1 m2
  unfold ok_IsPair at hrd
  have H1 := Lib.hid (h1.below B2); have H2 := Lib.hid (h2.below B2)
  have HG := Lib.hid ((B2.cell (World.block_lt_of_cell? w _ hx)).trans hx)
  clear hA hR B2 h1 h2 hx
  cases e1 : pairOk t b with
  | false =>
    rw [e1] at hrd
    have HRD := Lib.hid hrd; clear hrd e1
    go_enter Try.func59, Try.ntmps59
    go_wp2_with fail
    refine HRD.out.mono ?_
    rintro e w1 ⟨rfl, hb1⟩
    have HR1 := Lib.hid (HR.out.below hb1); have HB1 := Lib.hid (Below.step HB.out hb1)
    have g0 := HR1.out.c0; have g1 := HR1.out.c1; have g2 := HR1.out.free 0; have g3 := HR1.out.free 1
    clear hb1
    go_wp2
    exact bodyPost_ret (results_cbt _ _ (w.heap.size + 1) _ _ false ((HR1.out.set0 _).set1 _) rfl rfl) rfl ⟨_, _, rfl, Own.nil _ _, Own.nil _ _, ApartV.nil _, (HB1.out.setCell (p := ⟨w.heap.size + 1, 0, none⟩) (Nat.le_succ _) _).setCell (p := ⟨w.heap.size + 1, 1, none⟩) (Nat.le_succ _) _⟩
  | true =>
    rw [e1] at hrd
    obtain ⟨g1, g2, _⟩ := pairOk_facts e1
    have hs1 := fun w h hx => turnFn_any t x g w u1 h m1 hx
    have hs2 := fun w h hx => turnFn_any b x g w u2 h m2 hx
    unfold res_TurnSystem ok_TurnSystem at hs1 hs2
    simp only [g1, Bool.true_and] at hs1
    simp only [g2, Bool.true_and] at hs2
    simp only [Bool.true_and]
    have HRD := Lib.hid hrd
    clear hrd e1 g1 g2
    cases hin : inB x (-100) 100
    · simp only [hin, Bool.false_eq_true, if_false] at hs1 hs2 ⊢
      have HS1 := Lib.hid hs1; have HS2 := Lib.hid hs2
      clear hs1 hs2 hin
      go_enter Try.func59, Try.ntmps59
      go_wp2_with fail
      refine HRD.out.mono ?_
      rintro e w1 ⟨rfl, hb1⟩
      have HR1 := Lib.hid (HR.out.below hb1); have HB1 := Lib.hid (Below.step HB.out hb1); have HA1 := Lib.hid (HA.out.below hb1); have H11 := Lib.hid (H1.out.below hb1); have H21 := Lib.hid (H2.out.below hb1)
      have HG1 := Lib.hid ((hb1.cell (World.block_lt_of_cell? _ _ HG.out)).trans HG.out)
      have r0 := HA1.out.c0
      have r9 := HG1.out
      clear hb1
      go_wp2_with fail
      refine (HS1.out _ H11.out HG1.out).mono ?_
      rintro e w2 ⟨v1, rfl, ho1, hb2⟩
      obtain ⟨x1, y1, z1, rfl⟩ := ho1.form'
      have r1 := (HA1.out.below hb2).c1
      have HG2 := Lib.hid ((hb2.cell (World.block_lt_of_cell? _ _ HG1.out)).trans HG1.out)
      have HO1 := Lib.hid ho1; have HX := Lib.hid hb2; have H22 := Lib.hid (H21.out.below hb2)
      clear ho1 hb2 r9
      go_wp2_with fail
      refine (HS2.out _ H22.out HG2.out).mono ?_
      rintro e w3 ⟨v2, rfl, ho2, hb3⟩
      obtain ⟨x2, y2, z2, rfl⟩ := ho2.form'
      have HO2 := Lib.hid ho2; have HO12 := Lib.hid (HO1.out.below hb3); have HR3 := Lib.hid (HR1.out.below (Below.step HX.out hb3)); have HB3 := Lib.hid (Below.step HB1.out (Below.step HX.out hb3)); have g0 := HR3.out.c0; have g1 := HR3.out.c1; have g2 := HR3.out.free 0; have g3 := HR3.out.free 1
      clear ho2 hb3
      go_wp2
      exact bodyPost_ret (results_cbt _ _ (w.heap.size + 1) _ _ false ((HR3.out.set0 _).set1 _) rfl rfl) rfl ⟨_, _, rfl, Own.nil _ _, Own.nil _ _, ApartV.nil _, (HB3.out.setCell (p := ⟨w.heap.size + 1, 0, none⟩) (Nat.le_succ _) _).setCell (p := ⟨w.heap.size + 1, 1, none⟩) (Nat.le_succ _) _⟩
    · simp only [hin, if_true] at hs1 hs2 ⊢
      have HS1 := Lib.hid hs1; have HS2 := Lib.hid hs2
      clear hs1 hs2 hin
      go_enter Try.func59, Try.ntmps59
      go_wp2_with fail
      refine HRD.out.mono ?_
      rintro e w1 ⟨rfl, hb1⟩
      have HR1 := Lib.hid (HR.out.below hb1); have HB1 := Lib.hid (Below.step HB.out hb1); have HA1 := Lib.hid (HA.out.below hb1); have H11 := Lib.hid (H1.out.below hb1); have H21 := Lib.hid (H2.out.below hb1)
      have HG1 := Lib.hid ((hb1.cell (World.block_lt_of_cell? _ _ HG.out)).trans HG.out)
      have r0 := HA1.out.c0
      have r9 := HG1.out
      clear hb1
      go_wp2_with fail
      refine (HS1.out _ H11.out HG1.out).mono ?_
      rintro e w2 ⟨v1, rfl, ho1, hb2⟩
      obtain ⟨x1, y1, z1, rfl⟩ := ho1.form'
      have r1 := (HA1.out.below hb2).c1
      have HG2 := Lib.hid ((hb2.cell (World.block_lt_of_cell? _ _ HG1.out)).trans HG1.out)
      have HO1 := Lib.hid ho1; have HX := Lib.hid hb2; have H22 := Lib.hid (H21.out.below hb2)
      clear ho1 hb2 r9
      go_wp2_with fail
      refine (HS2.out _ H22.out HG2.out).mono ?_
      rintro e w3 ⟨v2, rfl, ho2, hb3⟩
      obtain ⟨x2, y2, z2, rfl⟩ := ho2.form'
      have HO2 := Lib.hid ho2; have HO12 := Lib.hid (HO1.out.below hb3); have HR3 := Lib.hid (HR1.out.below (Below.step HX.out hb3)); have HB3 := Lib.hid (Below.step HB1.out (Below.step HX.out hb3)); have g0 := HR3.out.c0; have g1 := HR3.out.c1; have g2 := HR3.out.free 0; have g3 := HR3.out.free 1
      clear ho2 hb3
      have hlt := HR1.out.lt
      have hx := HX.out.size
      have hw1 := HB1.out.size
      have G2 : ∀ k, (Value.slice x1 y1 z1).ownBlock = some k → (some (w.heap.size + 1) : Option Nat) ≠ some k := fun k hk e => by have h5 : w1.heap.size ≤ k := (HO12.out.lt k hk).1; simp at e; omega
      have G3 : ∀ k, (Value.slice x2 y2 z2).ownBlock = some k → (some (w.heap.size + 1) : Option Nat) ≠ some k := fun k hk e => by have h5 := (HO2.out.lt k hk).1; simp at e; omega
      have AP : ApartV (.slice x1 y1 z1) (.slice x2 y2 z2) := fun k hk hk' => by have h5 := (HO1.out.lt k hk).2; have h6 := (HO2.out.lt k hk').1; omega
      have HF1 := Lib.hid ((HO12.out.grown (grown_trans grown_setCell grown_setCell) G2 (w' := (w3.setCell ⟨w.heap.size + 1, 0, none⟩ (.slice x1 y1 z1)).setCell ⟨w.heap.size + 1, 1, none⟩ (.slice x2 y2 z2))).mono (B' := w.heap.size) hw1)
      have HF2 := Lib.hid ((HO2.out.grown (grown_trans grown_setCell grown_setCell) G3 (w' := (w3.setCell ⟨w.heap.size + 1, 0, none⟩ (.slice x1 y1 z1)).setCell ⟨w.heap.size + 1, 1, none⟩ (.slice x2 y2 z2))).mono (B' := w.heap.size) (by omega))
      have HF3 := Lib.hid ((HB3.out.setCell (p := ⟨w.heap.size + 1, 0, none⟩) (Nat.le_succ _) (.slice x1 y1 z1)).setCell (p := ⟨w.heap.size + 1, 1, none⟩) (Nat.le_succ _) (.slice x2 y2 z2))
      have HF4 := Lib.hid ((HR3.out.set0 (.slice x1 y1 z1)).set1 (.slice x2 y2 z2))
      have HF5 := Lib.hid AP
      clear G2 G3 AP hw1 hx hlt
      go_wp2
      exact bodyPost_ret (results_cbt _ _ (w.heap.size + 1) _ _ true HF4.out rfl rfl) rfl ⟨_, _, rfl, HF1.out, HF2.out, HF5.out, HF3.out⟩

theorem cell_lit1 (w : World) (p : Value) (T : TypeId) : (w.alloc (.cells #[p] T)).cell? ⟨w.heap.size, 0, none⟩ = some p := by
  rw [cell_of_row _ _ 0 _ _ _ (heap_alloc_new w _)]; rfl
theorem results_tm (tmps : Array Value) (w : World) (g : Nat) (v1 v2 : Value) (ok : Bool) (hg : Box2 26 w g v1 v2) (h2 : tmps.getD 4 undef = .pointer (some ⟨g, 0, none⟩)) (h3 : tmps.getD 5 undef = .bool ok) :
    (results Try.f9 tmps).run Try.prog w = .ok (.tuple #[.agg #[v1, v2], .bool ok]) w := by
  have h2' : tmps[4]?.getD undef = .pointer (some ⟨g, 0, none⟩) := by simpa using h2
  have h3' : tmps[5]?.getD undef = .bool ok := by simpa using h3
  have hr : Try.f9.results = #[.cell 4 26, .tmp 5] := by kernel_rfl
  simp [results, hr, h2', h3', asAddr, run_loadMea w g v1 v2 hg]

set_option maxHeartbeats 2000000 in
theorem impl_TurnMeander (t b : List Int) (x : Int) (w : World) (u1 u2 : Value) (h1 : Rd w u1 t) (h2 : Rd w u2 b) (m1 : t.length ≤ 1048576) (m2 : b.length ≤ 1048576) :
    Calls Try.prog 9 #[.agg #[u1, u2], .int .i64 x] w (GivesM w (res1_TurnMeander t b x) (res2_TurnMeander t b x) (ok_TurnMeander t b x)) := by
  have hA := Box2.below (Box2.below (Box2.new 26 w u1 u2) (Below.alloc1 _ (.cells #[.int .i64 x] 3))) (Below.alloc1 _ (.cells #[.slice none 0 0, .slice none 0 0] 26))
  have hR := Box2.new 26 ((w.alloc (.cells #[u1, u2] 26)).alloc (.cells #[.int .i64 x] 3)) (.slice none 0 0) (.slice none 0 0)
  rw [World.size_alloc, World.size_alloc] at hR
  have hc0 := cell_lit1 (w.alloc (.cells #[u1, u2] 26)) (.int .i64 x) 3
  rw [World.size_alloc] at hc0
  have hc := ((Below.alloc1 _ (.cells #[.slice none 0 0, .slice none 0 0] 26)).cell (World.block_lt_of_cell? _ _ hc0)).trans hc0
  have B2 := Below.step (Below.step (Below.alloc1 w (.cells #[u1, u2] 26)) (Below.alloc1 _ (.cells #[.int .i64 x] 3))) (Below.alloc1 _ (.cells #[.slice none 0 0, .slice none 0 0] 26))
  have k0 := hA.c0; have k1 := hA.c1
  have HA := Lib.hid hA; have HR := Lib.hid hR; have HB := Lib.hid B2
  have hrd := changeBoth_turn t b x (w.heap.size + 1) _ u1 u2 (h1.below B2) (h2.below B2) m1 m2 hc
  clear hA hR B2 h1 h2 hc hc0
  generalize res1_TurnMeander t b x = r1 at hrd ⊢
  generalize res2_TurnMeander t b x = r2 at hrd ⊢
  generalize ok_TurnMeander t b x = ok at hrd ⊢
  have HRD := Lib.hid hrd; clear hrd
  go_enter Try.func9, Try.ntmps9
  go_wp2_with fail
  refine HRD.out.mono ?_
  rintro e w1 ⟨v1, v2, rfl, ho1, ho2, hap, hb1⟩
  obtain ⟨x1, y1, z1, rfl⟩ := ho1.form'; obtain ⟨x2, y2, z2, rfl⟩ := ho2.form'
  have HR1 := Lib.hid (HR.out.below hb1); have HB1 := Lib.hid (Below.step HB.out hb1); have HO1 := Lib.hid ho1; have HO2 := Lib.hid ho2; have HAP := Lib.hid hap; have g0 := HR1.out.c0; have g1 := HR1.out.c1; have g2 := HR1.out.free 0; have g3 := HR1.out.free 1
  have hlt := Lib.hid HR.out.lt
  clear ho1 ho2 hap hb1
  go_wp2
  have G2 : ∀ k, (Value.slice x1 y1 z1).ownBlock = some k → (some (w.heap.size + 1 + 1) : Option Nat) ≠ some k := fun k hk e => by have h5 := (HO1.out.lt k hk).1; have h6 := hlt.out; simp at e h5 h6; omega
  have G3 : ∀ k, (Value.slice x2 y2 z2).ownBlock = some k → (some (w.heap.size + 1 + 1) : Option Nat) ≠ some k := fun k hk e => by have h5 := (HO2.out.lt k hk).1; have h6 := hlt.out; simp at e h5 h6; omega
  exact bodyPost_ret (results_tm _ _ (w.heap.size + 1 + 1) _ _ ok ((HR1.out.set0 _).set1 _) rfl rfl) rfl ⟨_, _, rfl, (HO1.out.grown (grown_trans grown_setCell grown_setCell) G2).mono HB.out.size, (HO2.out.grown (grown_trans grown_setCell grown_setCell) G3).mono HB.out.size, HAP.out, (HB1.out.setCell (p := ⟨w.heap.size + 1 + 1, 0, none⟩) (by show w.heap.size ≤ w.heap.size + 1 + 1; omega) _).setCell (p := ⟨w.heap.size + 1 + 1, 1, none⟩) (by show w.heap.size ≤ w.heap.size + 1 + 1; omega) _⟩

theorem results_stm (tmps : Array Value) (w : World) (g : Nat) (v1 v2 : Value) (ok : Bool) (hg : Box2 26 w g v1 v2) (h2 : tmps.getD 4 undef = .pointer (some ⟨g, 0, none⟩)) (h3 : tmps.getD 5 undef = .bool ok) :
    (results Try.f10 tmps).run Try.prog w = .ok (.tuple #[.agg #[v1, v2], .bool ok]) w := by
  have h2' : tmps[4]?.getD undef = .pointer (some ⟨g, 0, none⟩) := by simpa using h2
  have h3' : tmps[5]?.getD undef = .bool ok := by simpa using h3
  have hr : Try.f10.results = #[.cell 4 26, .tmp 5] := by kernel_rfl
  simp [results, hr, h2', h3', asAddr, run_loadMea w g v1 v2 hg]

set_option maxHeartbeats 4000000 in
theorem spec_TurnMeander (t b : List Int) (x : Int) (w : World) (u1 u2 : Value) (h1 : Rd w u1 t) (h2 : Rd w u2 b) (m1 : t.length ≤ 1048576) (m2 : b.length ≤ 1048576) :
    Calls Try.prog 10 #[.agg #[u1, u2], .int .i64 x] w (GivesM w (res1_TurnMeander t b x) (res2_TurnMeander t b x) (ok_TurnMeander t b x)) := by
  unfold res1_TurnMeander res2_TurnMeander ok_TurnMeander
  have hA := Box2.below (Box2.new 26 w u1 u2) (Below.alloc1 _ (.cells #[.slice none 0 0, .slice none 0 0] 26))
  have hR := Box2.new 26 (w.alloc (.cells #[u1, u2] 26)) (.slice none 0 0) (.slice none 0 0)
  rw [World.size_alloc] at hR
  have B2 := Below.step (Below.alloc1 w (.cells #[u1, u2] 26)) (Below.alloc1 _ (.cells #[.slice none 0 0, .slice none 0 0] 26))
  have k0 := hA.c0; have k1 := hA.c1
  have HA := Lib.hid hA; have HR := Lib.hid hR; have HB := Lib.hid B2
  have hrd := mePair_any t b _ u1 u2 (h1.below B2) (h2.below B2) m1 m2
  have H1 := Lib.hid (h1.below B2); have H2 := Lib.hid (h2.below B2)
  clear hA hR B2 h1 h2
  cases e1 : pairOk t b with
  | false =>
    rw [e1] at hrd
    have HRD := Lib.hid hrd; clear hrd e1
    go_enter Try.func10, Try.ntmps10
    go_wp2_with fail
    refine HRD.out.mono ?_
    rintro e w1 ⟨rfl, hb1⟩
    have HR1 := Lib.hid (HR.out.below hb1); have HB1 := Lib.hid (Below.step HB.out hb1)
    have g0 := HR1.out.c0; have g1 := HR1.out.c1; have g2 := HR1.out.free 0; have g3 := HR1.out.free 1
    clear hb1
    go_wp2
    exact bodyPost_ret (results_stm _ _ (w.heap.size + 1) _ _ false ((HR1.out.set0 _).set1 _) rfl rfl) rfl ⟨_, _, rfl, Own.nil _ _, Own.nil _ _, ApartV.nil _, (HB1.out.setCell (p := ⟨w.heap.size + 1, 0, none⟩) (Nat.le_succ _) _).setCell (p := ⟨w.heap.size + 1, 1, none⟩) (Nat.le_succ _) _⟩
  | true =>
    rw [e1] at hrd
    obtain ⟨g1, g2, _⟩ := pairOk_facts e1
    have hs1 := fun w h => spec_TurnSystem t x w u1 h m1
    have hs2 := fun w h => spec_TurnSystem b x w u2 h m2
    unfold res_TurnSystem ok_TurnSystem at hs1 hs2
    simp only [g1, Bool.true_and] at hs1
    simp only [g2, Bool.true_and] at hs2
    simp only [Bool.true_and]
    have HRD := Lib.hid hrd
    clear hrd e1 g1 g2
    cases hin : inB x (-100) 100
    · simp only [hin, Bool.false_eq_true, if_false] at hs1 hs2 ⊢
      have HS1 := Lib.hid hs1; have HS2 := Lib.hid hs2
      clear hs1 hs2 hin
      go_enter Try.func10, Try.ntmps10
      go_wp2_with fail
      refine HRD.out.mono ?_
      rintro e w1 ⟨rfl, hb1⟩
      have HR1 := Lib.hid (HR.out.below hb1); have HB1 := Lib.hid (Below.step HB.out hb1); have HA1 := Lib.hid (HA.out.below hb1); have H11 := Lib.hid (H1.out.below hb1)
      have r0 := HA1.out.c0
      clear hb1
      go_wp2_with fail
      refine (HS1.out _ H11.out).mono ?_
      rintro e w2 ⟨v1, rfl, ho1, hb2⟩
      have HR3 := Lib.hid (HR1.out.below hb2); have HB3 := Lib.hid (Below.step HB1.out hb2); have g0 := HR3.out.c0; have g1 := HR3.out.c1; have g2 := HR3.out.free 0; have g3 := HR3.out.free 1
      clear ho1 hb2
      go_wp2
      exact bodyPost_ret (results_stm _ _ (w.heap.size + 1) _ _ false ((HR3.out.set0 _).set1 _) rfl rfl) rfl ⟨_, _, rfl, Own.nil _ _, Own.nil _ _, ApartV.nil _, (HB3.out.setCell (p := ⟨w.heap.size + 1, 0, none⟩) (Nat.le_succ _) _).setCell (p := ⟨w.heap.size + 1, 1, none⟩) (Nat.le_succ _) _⟩
    · simp only [hin, if_true] at hs1 hs2 ⊢
      have HS1 := Lib.hid hs1; have HS2 := Lib.hid hs2
      clear hs1 hs2 hin
      go_enter Try.func10, Try.ntmps10
      go_wp2_with fail
      refine HRD.out.mono ?_
      rintro e w1 ⟨rfl, hb1⟩
      have HR1 := Lib.hid (HR.out.below hb1); have HB1 := Lib.hid (Below.step HB.out hb1); have HA1 := Lib.hid (HA.out.below hb1); have H11 := Lib.hid (H1.out.below hb1); have H21 := Lib.hid (H2.out.below hb1)
      have r0 := HA1.out.c0
      clear hb1
      go_wp2_with fail
      refine (HS1.out _ H11.out).mono ?_
      rintro e w2 ⟨v1, rfl, ho1, hb2⟩
      obtain ⟨x1, y1, z1, rfl⟩ := ho1.form'
      have r1 := (HA1.out.below hb2).c1
      have HO1 := Lib.hid ho1; have HX := Lib.hid hb2; have H22 := Lib.hid (H21.out.below hb2)
      clear ho1 hb2
      go_wp2_with fail
      refine (HS2.out _ H22.out).mono ?_
      rintro e w3 ⟨v2, rfl, ho2, hb3⟩
      obtain ⟨x2, y2, z2, rfl⟩ := ho2.form'
      have HO2 := Lib.hid ho2; have HO12 := Lib.hid (HO1.out.below hb3); have HR3 := Lib.hid (HR1.out.below (Below.step HX.out hb3)); have HB3 := Lib.hid (Below.step HB1.out (Below.step HX.out hb3)); have g0 := HR3.out.c0; have g1 := HR3.out.c1; have g2 := HR3.out.free 0; have g3 := HR3.out.free 1
      clear ho2 hb3
      have hlt := HR1.out.lt
      have hx := HX.out.size
      have hw1 := HB1.out.size
      have G2 : ∀ k, (Value.slice x1 y1 z1).ownBlock = some k → (some (w.heap.size + 1) : Option Nat) ≠ some k := fun k hk e => by have h5 : w1.heap.size ≤ k := (HO12.out.lt k hk).1; simp at e; omega
      have G3 : ∀ k, (Value.slice x2 y2 z2).ownBlock = some k → (some (w.heap.size + 1) : Option Nat) ≠ some k := fun k hk e => by have h5 := (HO2.out.lt k hk).1; simp at e; omega
      have AP : ApartV (.slice x1 y1 z1) (.slice x2 y2 z2) := fun k hk hk' => by have h5 := (HO1.out.lt k hk).2; have h6 := (HO2.out.lt k hk').1; omega
      have HF1 := Lib.hid ((HO12.out.grown (grown_trans grown_setCell grown_setCell) G2 (w' := (w3.setCell ⟨w.heap.size + 1, 0, none⟩ (.slice x1 y1 z1)).setCell ⟨w.heap.size + 1, 1, none⟩ (.slice x2 y2 z2))).mono (B' := w.heap.size) hw1)
      have HF2 := Lib.hid ((HO2.out.grown (grown_trans grown_setCell grown_setCell) G3 (w' := (w3.setCell ⟨w.heap.size + 1, 0, none⟩ (.slice x1 y1 z1)).setCell ⟨w.heap.size + 1, 1, none⟩ (.slice x2 y2 z2))).mono (B' := w.heap.size) (by omega))
      have HF3 := Lib.hid ((HB3.out.setCell (p := ⟨w.heap.size + 1, 0, none⟩) (Nat.le_succ _) (.slice x1 y1 z1)).setCell (p := ⟨w.heap.size + 1, 1, none⟩) (Nat.le_succ _) (.slice x2 y2 z2))
      have HF4 := Lib.hid ((HR3.out.set0 (.slice x1 y1 z1)).set1 (.slice x2 y2 z2))
      have HF5 := Lib.hid AP
      clear G2 G3 AP hw1 hx hlt
      go_wp2
      exact bodyPost_ret (results_stm _ _ (w.heap.size + 1) _ _ true HF4.out rfl rfl) rfl ⟨_, _, rfl, HF1.out, HF2.out, HF5.out, HF3.out⟩

end Go.Proofs.Ytbinpefogecgmab
