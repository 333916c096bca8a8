/- A pair by value as two lists; FlipMeander. -/
import Derived.Test.YtogjclmmjdhfeabReadPair
import Derived.Test.YtogjclmmjdhfeabShift
import Derived.Test.YtogjclmmjdhfeabOwn
import Derived.RegionTactic
import Derived.Deep.RegionWith
namespace Go.Proofs.Ytogjclmmjdhfeab
open Go.RowKit
set_option linter.unusedSimpArgs false
set_option linter.unusedVariables false

theorem pair_cells {w : World} {g : Nat} {t b : List Int} (h : PairIn w g t b) : w.cell? ⟨g, 0, none⟩ = some (sysV t 0) ∧ w.cell? ⟨g, 1, none⟩ = some (sysV t 1) ∧ w.cell? ⟨g, 2, none⟩ = some (sysV t 2) ∧ w.cell? ⟨g, 3, none⟩ = some (sysV t 3) ∧ w.cell? ⟨g, 4, none⟩ = some (sysV t 4) ∧ w.cell? ⟨g, 5, none⟩ = some (sysV t 5) ∧ w.cell? ⟨g, 6, none⟩ = some (sysV t 6) ∧ w.cell? ⟨g, 7, none⟩ = some (sysV t 7) ∧ w.cell? ⟨g, 8, none⟩ = some (sysV t 8) ∧ w.cell? ⟨g, 9, none⟩ = some (sysV t 9) ∧ w.cell? ⟨g, 10, none⟩ = some (sysV t 10) ∧ w.cell? ⟨g, 11, none⟩ = some (sysV t 11) ∧ w.cell? ⟨g, 12, none⟩ = some (sysV t 12) ∧ w.cell? ⟨g, 13, none⟩ = some (sysV b 0) ∧ w.cell? ⟨g, 14, none⟩ = some (sysV b 1) ∧ w.cell? ⟨g, 15, none⟩ = some (sysV b 2) ∧ w.cell? ⟨g, 16, none⟩ = some (sysV b 3) ∧ w.cell? ⟨g, 17, none⟩ = some (sysV b 4) ∧ w.cell? ⟨g, 18, none⟩ = some (sysV b 5) ∧ w.cell? ⟨g, 19, none⟩ = some (sysV b 6) ∧ w.cell? ⟨g, 20, none⟩ = some (sysV b 7) ∧ w.cell? ⟨g, 21, none⟩ = some (sysV b 8) ∧ w.cell? ⟨g, 22, none⟩ = some (sysV b 9) ∧ w.cell? ⟨g, 23, none⟩ = some (sysV b 10) ∧ w.cell? ⟨g, 24, none⟩ = some (sysV b 11) ∧ w.cell? ⟨g, 25, none⟩ = some (sysV b 12) := by
  refine ⟨?_, ?_, ?_, ?_, ?_, ?_, ?_, ?_, ?_, ?_, ?_, ?_, ?_, ?_, ?_, ?_, ?_, ?_, ?_, ?_, ?_, ?_, ?_, ?_, ?_, ?_⟩ <;> (rw [cell_of_row w g _ _ _ _ h]; rfl)

theorem results_pm (tmps : Array Value) (w : World) (g : Nat) (v1 v2 : Value) (hg : Box2 26 w g v1 v2) (h2 : tmps.getD 2 undef = .pointer (some ⟨g, 0, none⟩)) :
    (results Try.f124 tmps).run Try.prog w = .ok (.agg #[v1, v2]) w :=
  results_cell_row (by kernel_rfl) tmps w g _ #[v1, v2] _ _ h2 hg Try.underlying26 rfl (by rw [mea_info]; rfl)

set_option maxHeartbeats 4000000 in
theorem pairMeander_any (t b : List Int) (w : World) (l1 : t.length ≤ 12) (l2 : b.length ≤ 12) : Calls Try.prog 124 #[.agg (pairC t b)] w (MadeM w t b) := by
  have hP : PairIn (w.alloc (.cells (pairC t b) 102)) w.heap.size t b := heap_alloc_new w _
  have hR := Box2.new 26 (w.alloc (.cells (pairC t b) 102)) (.slice none 0 0) (.slice none 0 0)
  have hP2 := PairIn.below hP (Below.alloc1 _ (.cells #[.slice none 0 0, .slice none 0 0] 26))
  have B2 := Below.step (Below.alloc1 w (.cells (pairC t b) 102)) (Below.alloc1 _ (.cells #[.slice none 0 0, .slice none 0 0] 26))
  rw [World.size_alloc] at hR
  obtain ⟨e0, e1, e2, e3, e4, e5, e6, e7, e8, e9, e10, e11, e12, e13, e14, e15, e16, e17, e18, e19, e20, e21, e22, e23, e24, e25⟩ := pair_cells hP2
  have f0 := hR.c0; have f1 := hR.c1; have f2 := hR.free 0; have f3 := hR.free 1
  have HT := Lib.hid (sysC_lit l1); have HTB := Lib.hid (sysC_lit l2); have L1 := Lib.hid l1; have L2 := Lib.hid l2; have HP := Lib.hid hP2; have HR := Lib.hid hR; have HB := Lib.hid B2
  clear hP hR hP2 B2 l1 l2
  unfold pairC at *
  go_enter Try.func124, Try.ntmps124
  go_wp2_with fail
  generalize ((w.alloc (.cells #[sysV t 0, sysV t 1, sysV t 2, sysV t 3, sysV t 4, sysV t 5, sysV t 6, sysV t 7, sysV t 8, sysV t 9, sysV t 10, sysV t 11, sysV t 12, sysV b 0, sysV b 1, sysV b 2, sysV b 3, sysV b 4, sysV b 5, sysV b 6, sysV b 7, sysV b 8, sysV b 9, sysV b 10, sysV b 11, sysV b 12] 102)).alloc (.cells #[.slice none 0 0, .slice none 0 0] 26)) = W2 at *
  go_region_with (first
    | (go_at_call 190; (try rw [← HT.out]); (try rw [← HTB.out]); ((with_reducible refine (list_any t _ L1.out).mono ?_); rintro e w1 ⟨v1, rfl, ho1, hb1⟩; obtain ⟨x1, y1, z1, rfl⟩ := ho1.form'; have HO1 := Lib.hid ho1; have hb1' : Below W2.heap.size W2 w1 := ((Below.refl _ W2).drew).trans hb1; have HP1 := Lib.hid (HP.out.below hb1'); have HR1 := Lib.hid (HR.out.below hb1'); have HB1 := Lib.hid (Below.step HB.out hb1'); have HX := Lib.hid hb1'; obtain ⟨d0, d1, d2, d3, d4, d5, d6, d7, d8, d9, d10, d11, d12, d13, d14, d15, d16, d17, d18, d19, d20, d21, d22, d23, d24, d25⟩ := pair_cells HP1.out; clear ho1 hb1 hb1'))
    | (go_at_call 190; (try rw [← HT.out]); (try rw [← HTB.out]); ((with_reducible refine (list_any b _ L2.out).mono ?_); rintro e w2 ⟨v2, rfl, ho2, hb2⟩; obtain ⟨x2, y2, z2, rfl⟩ := ho2.form'; have HO2 := Lib.hid ho2; have HO12 := Lib.hid (HO1.out.below hb2); have HR2 := Lib.hid (HR1.out.below hb2); have HB2 := Lib.hid (Below.step HB1.out hb2); have g0 := HR2.out.c0; have g1 := HR2.out.c1; have g2 := HR2.out.free 0; have g3 := HR2.out.free 1; clear ho2 hb2)))
  all_goals
    have G2 : ∀ k, (Value.slice x1 y1 z1).ownBlock = some k → (some (w.heap.size + 1) : Option Nat) ≠ some k := fun k hk e => by have h5 : W2.heap.size ≤ k := (HO12.out.lt k hk).1; have := HR.out.lt; simp at e; omega
    have G3 : ∀ k, (Value.slice x2 y2 z2).ownBlock = some k → (some (w.heap.size + 1) : Option Nat) ≠ some k := fun k hk e => by have h5 := (HO2.out.lt k hk).1; have := HR1.out.lt; simp at e; omega
    have AP : ApartV (.slice x1 y1 z1) (.slice x2 y2 z2) := fun k hk hk' => by have h5 := (HO1.out.lt k hk).2; have h6 := (HO2.out.lt k hk').1; omega
    have hw2 : w.heap.size ≤ W2.heap.size := HB.out.size
    have hw1 : w.heap.size ≤ w1.heap.size := HB1.out.size
    have HF1 := Lib.hid ((HO12.out.grown (grown_trans grown_setCell grown_setCell) G2 (w' := (w2.setCell ⟨w.heap.size + 1, 0, none⟩ (.slice x1 y1 z1)).setCell ⟨w.heap.size + 1, 1, none⟩ (.slice x2 y2 z2))).mono (B' := w.heap.size) hw2)
    have HF2 := Lib.hid ((HO2.out.grown (grown_trans grown_setCell grown_setCell) G3 (w' := (w2.setCell ⟨w.heap.size + 1, 0, none⟩ (.slice x1 y1 z1)).setCell ⟨w.heap.size + 1, 1, none⟩ (.slice x2 y2 z2))).mono (B' := w.heap.size) hw1)
    have HF3 := Lib.hid ((HB2.out.setCell (p := ⟨w.heap.size + 1, 0, none⟩) (Nat.le_succ _) (.slice x1 y1 z1)).setCell (p := ⟨w.heap.size + 1, 1, none⟩) (Nat.le_succ _) (.slice x2 y2 z2))
    have HF4 := Lib.hid ((HR2.out.set0 (.slice x1 y1 z1)).set1 (.slice x2 y2 z2))
    have HF5 := Lib.hid AP
    clear G2 G3 AP hw2 hw1
    go_wp2
    exact bodyPost_ret (results_pm _ _ (w.heap.size + 1) _ _ HF4.out rfl) rfl ⟨_, _, rfl, HF1.out, HF2.out, HF5.out, HF3.out⟩

end Go.Proofs.Ytogjclmmjdhfeab
