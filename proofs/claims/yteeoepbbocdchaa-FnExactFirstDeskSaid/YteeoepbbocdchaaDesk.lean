/- FirstDesk on both sides. -/
import Derived.Test.YteeoepbbocdchaaMeander
import Derived.Test.YteeoepbbocdchaaPairM
namespace Go.Proofs.Yteeoepbbocdchaa
open Go.RowKit
set_option linter.unusedSimpArgs false
set_option linter.unusedVariables false

theorem Own.lit4 (B : Nat) (w : World) (x y z u : Int) (hB : B ≤ w.heap.size) : Own B (w.alloc (.cells #[.int .i64 x, .int .i64 y, .int .i64 z, .int .i64 u] 3)) (.slice (some ⟨w.heap.size, 0, none⟩) 4 4) [x, y, z, u] :=
  World.ownsRow_lit w #[.int .i64 x, .int .i64 y, .int .i64 z, .int .i64 u] 4 hB (by unfold maxLen; omega) rfl

theorem results_implDesk (tmps : Array Value) (w : World) (g : Nat) (v1 v2 : Value) (hg : Box2 42 w g v1 v2) (h2 : tmps.getD 0 undef = .pointer (some ⟨g, 0, none⟩)) :
    (results Try.f33 tmps).run Try.prog w = .ok (.agg #[v1, v2]) w :=
  results_cell_row (by kernel_rfl) tmps w g _ #[v1, v2] _ _ h2 hg Try.underlying42 rfl (by rw [mea_info]; rfl)
set_option maxHeartbeats 1000000 in
theorem implDesk_any (w : World) : Calls Try.prog 33 #[] w (MadeM w [3, 2, 1, 0] [1, 0, 3, 2]) := by
  have h0 := Box2.new 42 w (.slice (some ⟨w.heap.size + 1, 0, none⟩) 4 4) (.slice (some ⟨w.heap.size + 1 + 1, 0, none⟩) 4 4)
  have hb0 := Below.alloc1 w (.cells #[.slice (some ⟨w.heap.size + 1, 0, none⟩) 4 4, .slice (some ⟨w.heap.size + 1 + 1, 0, none⟩) 4 4] 42)
  have o1 := Own.lit4 (w.heap.size + 1) (w.alloc (.cells #[.slice (some ⟨w.heap.size + 1, 0, none⟩) 4 4, .slice (some ⟨w.heap.size + 1 + 1, 0, none⟩) 4 4] 42)) 3 2 1 0 (by simp)
  have o2 := Own.lit4 (w.heap.size + 1 + 1) ((w.alloc (.cells #[.slice (some ⟨w.heap.size + 1, 0, none⟩) 4 4, .slice (some ⟨w.heap.size + 1 + 1, 0, none⟩) 4 4] 42)).alloc (.cells #[.int .i64 3, .int .i64 2, .int .i64 1, .int .i64 0] 3)) 1 0 3 2 (by simp)
  simp only [World.size_alloc] at o1 o2
  have O1 := Lib.hid (o1.below (Below.alloc1 _ (.cells #[.int .i64 1, .int .i64 0, .int .i64 3, .int .i64 2] 3)))
  have O2 := Lib.hid o2
  have HB := Lib.hid (Below.step (Below.step hb0 (Below.alloc1 _ (.cells #[.int .i64 3, .int .i64 2, .int .i64 1, .int .i64 0] 3))) (Below.alloc1 _ (.cells #[.int .i64 1, .int .i64 0, .int .i64 3, .int .i64 2] 3)))
  have HR := Lib.hid ((h0.below (Below.alloc1 _ (.cells #[.int .i64 3, .int .i64 2, .int .i64 1, .int .i64 0] 3))).below (Below.alloc1 _ (.cells #[.int .i64 1, .int .i64 0, .int .i64 3, .int .i64 2] 3)))
  clear h0 hb0 o1 o2
  go_enter Try.func33, Try.ntmps33
  go_wp2
  refine bodyPost_ret (results_implDesk _ _ w.heap.size _ _ HR.out rfl) rfl ⟨_, _, rfl, O1.out.mono (by omega), O2.out.mono (by omega), ?_, HB.out⟩
  intro k hk hk'
  simp [Value.ownBlock] at hk hk'
  omega

theorem results_specDesk (tmps : Array Value) (w : World) (g : Nat) (v1 v2 : Value) (hg : Box2 42 w g v1 v2) (h2 : tmps.getD 0 undef = .pointer (some ⟨g, 0, none⟩)) :
    (results Try.f32 tmps).run Try.prog w = .ok (.agg #[v1, v2]) w :=
  results_cell_row (by kernel_rfl) tmps w g _ #[v1, v2] _ _ h2 hg Try.underlying42 rfl (by rw [mea_info]; rfl)
set_option maxHeartbeats 1000000 in
theorem specDesk_any (w : World) : Calls Try.prog 32 #[] w (MadeM w [3, 2, 1, 0] [1, 0, 3, 2]) := by
  have h0 := Box2.new 42 w (.slice (some ⟨w.heap.size + 1, 0, none⟩) 4 4) (.slice (some ⟨w.heap.size + 1 + 1, 0, none⟩) 4 4)
  have hb0 := Below.alloc1 w (.cells #[.slice (some ⟨w.heap.size + 1, 0, none⟩) 4 4, .slice (some ⟨w.heap.size + 1 + 1, 0, none⟩) 4 4] 42)
  have o1 := Own.lit4 (w.heap.size + 1) (w.alloc (.cells #[.slice (some ⟨w.heap.size + 1, 0, none⟩) 4 4, .slice (some ⟨w.heap.size + 1 + 1, 0, none⟩) 4 4] 42)) 3 2 1 0 (by simp)
  have o2 := Own.lit4 (w.heap.size + 1 + 1) ((w.alloc (.cells #[.slice (some ⟨w.heap.size + 1, 0, none⟩) 4 4, .slice (some ⟨w.heap.size + 1 + 1, 0, none⟩) 4 4] 42)).alloc (.cells #[.int .i64 3, .int .i64 2, .int .i64 1, .int .i64 0] 3)) 1 0 3 2 (by simp)
  simp only [World.size_alloc] at o1 o2
  have O1 := Lib.hid (o1.below (Below.alloc1 _ (.cells #[.int .i64 1, .int .i64 0, .int .i64 3, .int .i64 2] 3)))
  have O2 := Lib.hid o2
  have HB := Lib.hid (Below.step (Below.step hb0 (Below.alloc1 _ (.cells #[.int .i64 3, .int .i64 2, .int .i64 1, .int .i64 0] 3))) (Below.alloc1 _ (.cells #[.int .i64 1, .int .i64 0, .int .i64 3, .int .i64 2] 3)))
  have HR := Lib.hid ((h0.below (Below.alloc1 _ (.cells #[.int .i64 3, .int .i64 2, .int .i64 1, .int .i64 0] 3))).below (Below.alloc1 _ (.cells #[.int .i64 1, .int .i64 0, .int .i64 3, .int .i64 2] 3)))
  clear h0 hb0 o1 o2
  go_enter Try.func32, Try.ntmps32
  go_wp2
  refine bodyPost_ret (results_specDesk _ _ w.heap.size _ _ HR.out rfl) rfl ⟨_, _, rfl, O1.out.mono (by omega), O2.out.mono (by omega), ?_, HB.out⟩
  intro k hk hk'
  simp [Value.ownBlock] at hk hk'
  omega

end Go.Proofs.Yteeoepbbocdchaa
