/- frontier.state. -/
/- MirrorState in the program. -/
import Derived.Test.YtllhdmpnjcemkacStGood2
import Derived.Test.YtllhdmpnjcemkacReadSt
import Derived.Test.YtllhdmpnjcemkacEnds2
import Derived.Test.YtllhdmpnjcemkacFrontEq
import Derived.RegionTactic
import Derived.Deep.RegionWith
import Derived.Test.YtllhdmpnjcemkacStMirF
namespace Go.Proofs.Ytllhdmpnjcemkac
open Go.RowKit
set_option linter.unusedSimpArgs false
set_option linter.unusedVariables false

theorem frS_cells {w : World} {g : Nat} {u d : List Int} {c : Int} (hu : u.length ≤ 6) (hd : d.length ≤ 6) (h : FrIn w g u d c) : w.cell? ⟨g, 0, none⟩ = some (endV u 0) ∧ w.cell? ⟨g, 1, none⟩ = some (endV u 1) ∧ w.cell? ⟨g, 2, none⟩ = some (endV u 2) ∧ w.cell? ⟨g, 3, none⟩ = some (endV u 3) ∧ w.cell? ⟨g, 4, none⟩ = some (endV u 4) ∧ w.cell? ⟨g, 5, none⟩ = some (endV u 5) ∧ w.cell? ⟨g, 6, none⟩ = some (endV u 6) ∧ w.cell? ⟨g, 7, none⟩ = some (endV d 0) ∧ w.cell? ⟨g, 8, none⟩ = some (endV d 1) ∧ w.cell? ⟨g, 9, none⟩ = some (endV d 2) ∧ w.cell? ⟨g, 10, none⟩ = some (endV d 3) ∧ w.cell? ⟨g, 11, none⟩ = some (endV d 4) ∧ w.cell? ⟨g, 12, none⟩ = some (endV d 5) ∧ w.cell? ⟨g, 13, none⟩ = some (endV d 6) ∧ w.cell? ⟨g, 14, none⟩ = some (.int .i64 c) := by
  unfold FrIn at h
  rw [frC_lit c hu hd] at h
  refine ⟨?_, ?_, ?_, ?_, ?_, ?_, ?_, ?_, ?_, ?_, ?_, ?_, ?_, ?_, ?_⟩ <;> (rw [cell_of_row w g _ _ _ _ h]; rfl)

theorem results_frs (tmps : Array Value) (w : World) (g : Nat) (v1 v2 v3 : Value) (hg : Box3 27 w g v1 v2 v3) (h2 : tmps.getD 2 undef = .pointer (some ⟨g, 0, none⟩)) :
    (results Try.f58 tmps).run Try.prog w = .ok (.agg #[v1, v2, v3]) w :=
  results_cell_row (by kernel_rfl) tmps w g _ #[v1, v2, v3] _ _ h2 hg Try.underlying27 rfl (by rw [sta_info]; rfl)

set_option maxHeartbeats 4000000 in
theorem frState_any (u d : List Int) (c : Int) (w : World) (hu : u.length ≤ 6) (hd : d.length ≤ 6) :
    Calls Try.prog 58 #[.agg (frC u d c)] w (MadeSt w u d c) := by
  have hP : FrIn (w.alloc (.cells (frC u d c) 77)) w.heap.size u d c := heap_alloc_new w _
  have hR := Box3.new 27 (w.alloc (.cells (frC u d c) 77)) (.slice none 0 0) (.slice none 0 0) (.int .i64 0)
  have hP2 := FrIn.below hP (Below.alloc1 _ (.cells #[.slice none 0 0, .slice none 0 0, .int .i64 0] 27))
  have B2 := Below.step (Below.alloc1 w (.cells (frC u d c) 77)) (Below.alloc1 _ (.cells #[.slice none 0 0, .slice none 0 0, .int .i64 0] 27))
  rw [World.size_alloc] at hR
  obtain ⟨e0, e1, e2, e3, e4, e5, e6, e7, e8, e9, e10, e11, e12, e13, e14⟩ := frS_cells hu hd hP2
  have f0 := hR.c0; have f1 := hR.c1; have f2 := hR.c2; have f3 := hR.free 0; have f4 := hR.free 1; have f5 := hR.free 2
  have HT := Lib.hid (endC_lit hu); have HTB := Lib.hid (endC_lit hd); have L1 := Lib.hid hu; have L2 := Lib.hid hd; have HP := Lib.hid hP2; have HR := Lib.hid hR; have HB := Lib.hid B2
  clear hP hR hP2 B2 hu hd
  go_enter Try.func58, Try.ntmps58
  go_wp2_with fail
  generalize ((w.alloc (.cells (frC u d c) 77)).alloc (.cells #[.slice none 0 0, .slice none 0 0, .int .i64 0] 27)) = W2 at *
  go_region_with (first
    | (go_at_call 82; (try rw [← HT.out]); (try rw [← HTB.out]); ((with_reducible refine (endsList_any u _ L1.out).mono ?_); rintro e w1 ⟨v1, rfl, ho1, hb1⟩; obtain ⟨x1, y1, z1, rfl⟩ := ho1.form'; have HO1 := Lib.hid ho1; have hb1' : Below W2.heap.size W2 w1 := ((Below.refl _ W2).drew).trans hb1; have HP1 := Lib.hid (HP.out.below hb1'); have HR1 := Lib.hid (HR.out.below hb1'); have HB1 := Lib.hid (Below.step HB.out hb1'); have HX := Lib.hid hb1'; obtain ⟨d0, d1, d2, d3, d4, d5, d6, d7, d8, d9, d10, d11, d12, d13, d14⟩ := frS_cells L1.out L2.out HP1.out; clear ho1 hb1 hb1'))
    | (go_at_call 82; (try rw [← HT.out]); (try rw [← HTB.out]); ((with_reducible refine (endsList_any d _ L2.out).mono ?_); rintro e w2 ⟨v2, rfl, ho2, hb2⟩; obtain ⟨x2, y2, z2, rfl⟩ := ho2.form'; have HO2 := Lib.hid ho2; have HO12 := Lib.hid (HO1.out.below hb2); have HR2 := Lib.hid (HR1.out.below hb2); have HP2 := Lib.hid (HP1.out.below hb2); have HB2 := Lib.hid (Below.step HB1.out hb2); obtain ⟨_, _, _, _, _, _, _, _, _, _, _, _, _, _, q14⟩ := frS_cells L1.out L2.out HP2.out; have g0 := HR2.out.c0; have g1 := HR2.out.c1; have g2 := HR2.out.c2; have g3 := HR2.out.free 0; have g4 := HR2.out.free 1; have g5 := HR2.out.free 2; clear ho2 hb2)))
  all_goals
    have G2 : ∀ k, (Value.slice x1 y1 z1).ownBlock = some k → (some (w.heap.size + 1) : Option Nat) ≠ some k := fun k hk e => by have h5 : W2.heap.size ≤ k := (HO12.out.lt k hk).1; have := HR.out.lt; simp at e; omega
    have G3 : ∀ k, (Value.slice x2 y2 z2).ownBlock = some k → (some (w.heap.size + 1) : Option Nat) ≠ some k := fun k hk e => by have h5 := (HO2.out.lt k hk).1; have := HR1.out.lt; simp at e; omega
    have AP : ApartS (.slice x1 y1 z1) (.slice x2 y2 z2) := fun k hk hk' => by have h5 := (HO1.out.lt k hk).2; have h6 := (HO2.out.lt k hk').1; omega
    have hw2 : w.heap.size ≤ W2.heap.size := HB.out.size
    have hw1 : w.heap.size ≤ w1.heap.size := HB1.out.size
    have HF1 := Lib.hid ((HO12.out.grown (grownS_trans (grownS_trans grownS_setCell grownS_setCell) grownS_setCell) G2 (w' := ((w2.setCell ⟨w.heap.size + 1, 0, none⟩ (.slice x1 y1 z1)).setCell ⟨w.heap.size + 1, 1, none⟩ (.slice x2 y2 z2)).setCell ⟨w.heap.size + 1, 2, none⟩ (.int .i64 c))).mono (B' := w.heap.size) hw2)
    have HF2 := Lib.hid ((HO2.out.grown (grownS_trans (grownS_trans grownS_setCell grownS_setCell) grownS_setCell) G3 (w' := ((w2.setCell ⟨w.heap.size + 1, 0, none⟩ (.slice x1 y1 z1)).setCell ⟨w.heap.size + 1, 1, none⟩ (.slice x2 y2 z2)).setCell ⟨w.heap.size + 1, 2, none⟩ (.int .i64 c))).mono (B' := w.heap.size) hw1)
    have HF3 := Lib.hid (((HB2.out.setCell (p := ⟨w.heap.size + 1, 0, none⟩) (Nat.le_succ _) (.slice x1 y1 z1)).setCell (p := ⟨w.heap.size + 1, 1, none⟩) (Nat.le_succ _) (.slice x2 y2 z2)).setCell (p := ⟨w.heap.size + 1, 2, none⟩) (Nat.le_succ _) (.int .i64 c))
    have HF4 := Lib.hid (((HR2.out.set0 (.slice x1 y1 z1)).set1 (.slice x2 y2 z2)).set2 (.int .i64 c))
    have HF5 := Lib.hid AP
    clear G2 G3 AP hw2 hw1
    go_wp2
    exact bodyPost_ret (results_frs _ _ (w.heap.size + 1) _ _ _ HF4.out rfl) rfl ⟨_, _, rfl, HF1.out, HF2.out, HF5.out, HF3.out⟩

end Go.Proofs.Ytllhdmpnjcemkac

namespace Go.Proofs.Ytllhdmpnjcemkac
open Go.RowKit
set_option linter.unusedSimpArgs false
set_option linter.unusedVariables false

theorem fr0_lt (w : World) : w.heap.size < (w.alloc (.cells #[.int .i64 0, .int .i64 0, .int .i64 0, .int .i64 0, .int .i64 0, .int .i64 0, .int .i64 0, .int .i64 0, .int .i64 0, .int .i64 0, .int .i64 0, .int .i64 0, .int .i64 0, .int .i64 0, .int .i64 0] 77)).heap.size := by simp

end Go.Proofs.Ytllhdmpnjcemkac
