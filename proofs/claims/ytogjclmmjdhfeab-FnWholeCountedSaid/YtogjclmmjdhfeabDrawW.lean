/- big told in full, components counted by the laws, and what is drawn for the law on moved joins. -/
/- What is drawn for the law on whole pairs. -/
import Derived.Test.YtogjclmmjdhfeabDrawC
import Derived.Test.YtogjclmmjdhfeabComps
namespace Go.Proofs.Ytogjclmmjdhfeab
open Go.RowKit
set_option linter.unusedSimpArgs false
set_option linter.unusedVariables false

/-- .. and where it says no, both are short -/
def BigOut (n1 n2 : Nat) (w : World) (e : Ending) (w' : World) : Prop := ∃ b : Bool, e = .returned (.bool b) ∧ w' = w ∧ (b = false → n1 ≤ 1048576 ∧ n2 ≤ 1048576)
set_option maxHeartbeats 1000000 in
theorem big_yes (a1 : Option Addr) (n1 c1 : Nat) (l1 : List Int) (a2 : Option Addr) (n2 c2 : Nat) (l2 : List Int) (w : World) (y1 : RdY w (.slice a1 n1 c1) l1) (y2 : RdY w (.slice a2 n2 c2) l2) :
    Calls Try.prog 7 #[.slice a1 n1 c1, .slice a2 n2 c2] w (BigOut n1 n2 w) := by
  have h1 : n1 ≤ 9223372036854775807 := by
    obtain ⟨a, c, e, h2, h3, _⟩ := y1
    simp only [Value.slice.injEq] at e
    unfold maxLen at h3; omega
  have h2 : n2 ≤ 9223372036854775807 := by
    obtain ⟨a, c, e, h2, h3, _⟩ := y2
    simp only [Value.slice.injEq] at e
    unfold maxLen at h3; omega
  clear y1 y2
  go_enter Try.func7, Try.ntmps7
  by_cases h : n1 ≤ 1048576
  · have hw : IntKind.i64.wrap (1048576 - (n1 : Int)) = 1048576 - (n1 : Int) := IntWalk.i64_in _ (by omega)
    have hg : ¬ (1048576 : Int) < (n1 : Int) := by omega
    by_cases h3 : n2 ≤ 1048576
    · go_wp2
      go_ret
      exact ⟨_, rfl, rfl, fun _ => ⟨h, h3⟩⟩
    · have hn : 1048576 - (n1 : Int) < (n2 : Int) := by omega
      go_wp2
      go_ret
      exact ⟨true, rfl, rfl, fun e => by cases e⟩
  · have hg : (1048576 : Int) < (n1 : Int) := by omega
    go_wp2
    go_ret
    exact ⟨true, rfl, rfl, fun e => by cases e⟩

end Go.Proofs.Ytogjclmmjdhfeab

namespace Go.Proofs.Ytogjclmmjdhfeab
open Go.RowKit
set_option linter.unusedSimpArgs false
set_option linter.unusedVariables false

set_option maxHeartbeats 4000000 in
set_option maxRecDepth 100000 in
theorem drawAllWhole_any (v : Value) (l : List Int) (w : World) (hr : RdY w v l) : Calls Try.prog 65 #[v] w (DrawnI w (fun x => 0 ≤ x ∧ x ≤ 5)) := by
  have HR0 := Lib.hid (hr.below (Below.alloc1 w (.cells #[v, .int .i64 0, .int .u64 0] 95)))
  have HRD := Lib.hid (fun K w1 (ho : CurOut (w.alloc (.cells #[v, .int .i64 0, .int .u64 0] 95)) w.heap.size v K w1) => CurOut.rd HR0.out (cur_new w v) ho)
  have HO : Hid (CurOut (w.alloc (.cells #[v, .int .i64 0, .int .u64 0] 95)) w.heap.size v 0 (w.alloc (.cells #[v, .int .i64 0, .int .u64 0] 95))) := CurOut.refl (k := 0) (cur_new w v)
  have HIF : Hid (∀ b : Bool, b = true ∨ b = false) := fun b => by cases b <;> simp
  obtain ⟨y1, y2, rfl, _⟩ := hr
  go_enter Try.func65, Try.ntmps65
  go_wp2_with fail
  refine (among_own w.heap.size 0 (w.heap.size + 1) (.slice (some ⟨w.heap.size + 1, 0, none⟩) 7 7) _ l [1, 2, 3, 4, 3, 5, 0] ((w.alloc (.cells #[.slice y1 l.length y2, .int .i64 0, .int .u64 0] 95)).alloc (.cells #[.int .i64 1, .int .i64 2, .int .i64 3, .int .i64 4, .int .i64 3, .int .i64 5, .int .i64 0] 3)) (HO.out.1.below (Below.alloc1 _ _)) ((HRD.out _ _ HO.out).below (Below.alloc1 _ _)) (by have h := World.ownsRow_lit (base := w.heap.size + 1) (e := 3) (size := 1) (w.alloc (.cells #[.slice y1 l.length y2, .int .i64 0, .int .u64 0] 95)) #[.int .i64 1, .int .i64 2, .int .i64 3, .int .i64 4, .int .i64 3, .int .i64 5, .int .i64 0] 7 (by simp) (by unfold maxLen; omega) rfl; rw [World.size_alloc] at h; exact h) (by omega) (by simp) (by simp) (by omega)).mono ?_
  rintro e w1 ⟨x, rfl, hx, ho⟩
  replace HO := Lib.hid (CurOut.mono ((CurOut.below HO.out (Below.alloc1 _ _)).trans ho) (show _ ≤ 2 by omega)); clear ho
  have Hx : Hid (0 ≤ x ∧ x ≤ 5) := by
    simp only [List.mem_cons, List.not_mem_nil, or_false] at hx
    unfold Hid
    omega
  clear hx
  go_wp2_with fail
  go_ret
  exact ⟨x, rfl, Hx.out, CurOut.toBelow HO.out⟩
set_option maxHeartbeats 4000000 in
set_option maxRecDepth 100000 in
theorem drawCountWhole_any (v : Value) (l : List Int) (w : World) (hr : RdY w v l) : Calls Try.prog 75 #[v] w (DrawnI w (fun x => 0 ≤ x ∧ x ≤ 6)) := by
  have HR0 := Lib.hid (hr.below (Below.alloc1 w (.cells #[v, .int .i64 0, .int .u64 0] 95)))
  have HRD := Lib.hid (fun K w1 (ho : CurOut (w.alloc (.cells #[v, .int .i64 0, .int .u64 0] 95)) w.heap.size v K w1) => CurOut.rd HR0.out (cur_new w v) ho)
  have HO : Hid (CurOut (w.alloc (.cells #[v, .int .i64 0, .int .u64 0] 95)) w.heap.size v 0 (w.alloc (.cells #[v, .int .i64 0, .int .u64 0] 95))) := CurOut.refl (k := 0) (cur_new w v)
  have HIF : Hid (∀ b : Bool, b = true ∨ b = false) := fun b => by cases b <;> simp
  obtain ⟨y1, y2, rfl, _⟩ := hr
  go_enter Try.func75, Try.ntmps75
  go_wp2_with fail
  refine (among_own w.heap.size 0 (w.heap.size + 1) (.slice (some ⟨w.heap.size + 1, 0, none⟩) 7 7) _ l [1, 2, 3, 4, 5, 6, 0] ((w.alloc (.cells #[.slice y1 l.length y2, .int .i64 0, .int .u64 0] 95)).alloc (.cells #[.int .i64 1, .int .i64 2, .int .i64 3, .int .i64 4, .int .i64 5, .int .i64 6, .int .i64 0] 3)) (HO.out.1.below (Below.alloc1 _ _)) ((HRD.out _ _ HO.out).below (Below.alloc1 _ _)) (by have h := World.ownsRow_lit (base := w.heap.size + 1) (e := 3) (size := 1) (w.alloc (.cells #[.slice y1 l.length y2, .int .i64 0, .int .u64 0] 95)) #[.int .i64 1, .int .i64 2, .int .i64 3, .int .i64 4, .int .i64 5, .int .i64 6, .int .i64 0] 7 (by simp) (by unfold maxLen; omega) rfl; rw [World.size_alloc] at h; exact h) (by omega) (by simp) (by simp) (by omega)).mono ?_
  rintro e w1 ⟨x, rfl, hx, ho⟩
  replace HO := Lib.hid (CurOut.mono ((CurOut.below HO.out (Below.alloc1 _ _)).trans ho) (show _ ≤ 2 by omega)); clear ho
  have Hx : Hid (0 ≤ x ∧ x ≤ 6) := by
    simp only [List.mem_cons, List.not_mem_nil, or_false] at hx
    unfold Hid
    omega
  clear hx
  go_wp2_with fail
  go_ret
  exact ⟨x, rfl, Hx.out, CurOut.toBelow HO.out⟩
theorem drawCountByPieces_any (v : Value) (l : List Int) (w : World) (hr : RdY w v l) : Calls Try.prog 77 #[v] w (DrawnI w (fun x => 0 ≤ x ∧ x ≤ 5)) := by
  have HS := Lib.hid (drawAllWhole_any v l w hr)
  obtain ⟨y1, y2, rfl, _⟩ := hr
  go_enter Try.func77, Try.ntmps77
  go_wp2_with fail
  refine HS.out.mono ?_
  rintro e w1 ⟨x, rfl, hx, hb⟩
  have HX := Lib.hid hx; have HB := Lib.hid hb
  clear hx hb
  go_wp2_with fail
  go_ret
  exact ⟨x, rfl, HX.out, HB.out⟩
theorem drawCountSimple_any (v : Value) (l : List Int) (w : World) (hr : RdY w v l) : Calls Try.prog 79 #[v] w (DrawnI w (fun x => 0 ≤ x ∧ x ≤ 5)) := by
  have HS := Lib.hid (drawAllWhole_any v l w hr)
  obtain ⟨y1, y2, rfl, _⟩ := hr
  go_enter Try.func79, Try.ntmps79
  go_wp2_with fail
  refine HS.out.mono ?_
  rintro e w1 ⟨x, rfl, hx, hb⟩
  have HX := Lib.hid hx; have HB := Lib.hid hb
  clear hx hb
  go_wp2_with fail
  go_ret
  exact ⟨x, rfl, HX.out, HB.out⟩

end Go.Proofs.Ytogjclmmjdhfeab
