/- What is drawn for the laws on arches. -/
import Derived.Test.YtbinpefogecgmaaDrawA
namespace Go.Proofs.Ytbinpefogecgmaa
open Go.RowKit
set_option linter.unusedSimpArgs false
set_option linter.unusedVariables false

set_option maxHeartbeats 4000000 in
set_option maxRecDepth 100000 in
theorem drawDropArch_any (v : Value) (l : List Int) (w : World) (hr : RdY w v l) : Calls Try.prog 46 #[v] w (DrawnLI w 14 (fun x => -1 ≤ x ∧ x ≤ 20)) := by
  have HR0 := Lib.hid (hr.below (Below.alloc1 w (.cells #[v, .int .i64 0, .int .u64 0] 70)))
  have HRD := Lib.hid (fun K w1 (ho : CurOut (w.alloc (.cells #[v, .int .i64 0, .int .u64 0] 70)) w.heap.size v K w1) => CurOut.rd HR0.out (cur_new w v) ho)
  have HO : Hid (CurOut (w.alloc (.cells #[v, .int .i64 0, .int .u64 0] 70)) w.heap.size v 0 (w.alloc (.cells #[v, .int .i64 0, .int .u64 0] 70))) := CurOut.refl (k := 0) (cur_new w v)
  have HIF : Hid (∀ b : Bool, b = true ∨ b = false) := fun b => by cases b <;> simp
  obtain ⟨y1, y2, rfl, _⟩ := hr
  go_enter Try.func46, Try.ntmps46
  go_wp2_with fail
  refine (system_any w.heap.size 0 6 _ l _ HO.out.1 (HRD.out _ _ HO.out) (by omega) (by omega)).mono ?_
  rintro e w1 ⟨v_p, l_p, rfl, hq, hl_p, ho⟩
  obtain ⟨pa, pc, rfl, pc1, pc2⟩ := hq.form; unfold maxLen at pc2
  have O_p : Hid (Own (w.heap.size + 1) w1 _ _) := hq.mono (by have h9 := HO.out.2.size; rw [World.size_alloc] at h9; (try rw [World.size_alloc]); omega); clear hq
  replace HO := Lib.hid (CurOut.mono (HO.out.trans ho) (show _ ≤ 40 by omega)); clear ho
  have hw1 : IntKind.i64.wrap ((l_p.length : Int) + 2) = (l_p.length : Int) + 2 := IntWalk.i64_in _ (by omega)
  go_wp2_with fail
  refine (pick_any w.heap.size 40 ((l_p.length : Int) + 2) _ l _ HO.out.1 (HRD.out _ _ HO.out) (by omega) (by omega)).mono ?_
  rintro e w2 ⟨x, rfl, hx, ho⟩
  replace O_p := Lib.hid (CurOut.own ho O_p.out (Nat.lt_succ_self _))
  replace HO := Lib.hid (CurOut.mono (HO.out.trans ho) (show _ ≤ 42 by omega)); clear ho
  have Hx : Hid (0 ≤ x ∧ x ≤ 16) := by obtain ⟨h0, h1⟩ := hx; unfold Hid; rcases h1 with h1 | h1 <;> omega
  clear hx
  have hw2 : IntKind.i64.wrap (x - 1) = x - 1 := IntWalk.i64_in _ (by have := Hx.out; omega)
  go_wp2_with fail
  go_ret2
  exact ⟨_, l_p, x - 1, rfl, O_p.out.mono (by omega), hl_p, by have := Hx.out; omega, CurOut.toBelow HO.out⟩
set_option maxHeartbeats 4000000 in
set_option maxRecDepth 100000 in
theorem drawPutArch_any (v : Value) (l : List Int) (w : World) (hr : RdY w v l) : Calls Try.prog 50 #[v] w (DrawnLII w 14 (fun x => -9223372036854775808 ≤ x ∧ x ≤ 4611686018427387904)) := by
  have HR0 := Lib.hid (hr.below (Below.alloc1 w (.cells #[v, .int .i64 0, .int .u64 0] 70)))
  have HRD := Lib.hid (fun K w1 (ho : CurOut (w.alloc (.cells #[v, .int .i64 0, .int .u64 0] 70)) w.heap.size v K w1) => CurOut.rd HR0.out (cur_new w v) ho)
  have HO : Hid (CurOut (w.alloc (.cells #[v, .int .i64 0, .int .u64 0] 70)) w.heap.size v 0 (w.alloc (.cells #[v, .int .i64 0, .int .u64 0] 70))) := CurOut.refl (k := 0) (cur_new w v)
  have HIF : Hid (∀ b : Bool, b = true ∨ b = false) := fun b => by cases b <;> simp
  obtain ⟨y1, y2, rfl, _⟩ := hr
  go_enter Try.func50, Try.ntmps50
  go_wp2_with fail
  refine (system_any w.heap.size 0 5 _ l _ HO.out.1 (HRD.out _ _ HO.out) (by omega) (by omega)).mono ?_
  rintro e w1 ⟨v_p, l_p, rfl, hq, hl_p, ho⟩
  obtain ⟨pa, pc, rfl, pc1, pc2⟩ := hq.form; unfold maxLen at pc2
  have O_p : Hid (Own (w.heap.size + 1) w1 _ _) := hq.mono (by have h9 := HO.out.2.size; rw [World.size_alloc] at h9; (try rw [World.size_alloc]); omega); clear hq
  replace HO := Lib.hid (CurOut.mono (HO.out.trans ho) (show _ ≤ 40 by omega)); clear ho
  have hw1 : IntKind.i64.wrap ((l_p.length : Int) + 2) = (l_p.length : Int) + 2 := IntWalk.i64_in _ (by omega)
  have hw7 : IntKind.i64.wrap ((l_p.length : Int) + 1) = (l_p.length : Int) + 1 := IntWalk.i64_in _ (by omega)
  go_wp2_with fail
  refine (pick_any w.heap.size 40 ((l_p.length : Int) + 2) _ l _ HO.out.1 (HRD.out _ _ HO.out) (by omega) (by omega)).mono ?_
  rintro e w2 ⟨x, rfl, hx, ho⟩
  replace O_p := Lib.hid (CurOut.own ho O_p.out (Nat.lt_succ_self _))
  replace HO := Lib.hid (CurOut.mono (HO.out.trans ho) (show _ ≤ 42 by omega)); clear ho
  have Hx : Hid (0 ≤ x ∧ x ≤ 16) := by obtain ⟨h0, h1⟩ := hx; unfold Hid; rcases h1 with h1 | h1 <;> omega
  clear hx
  have hw2 : IntKind.i64.wrap (x + 1) = x + 1 := IntWalk.i64_in _ (by have := Hx.out; omega)
  go_wp2_with fail
  refine (pick_any w.heap.size 42 3 _ l _ HO.out.1 (HRD.out _ _ HO.out) (by omega) (by omega)).mono ?_
  rintro e w3 ⟨z, rfl, hz, ho⟩
  replace O_p := Lib.hid (CurOut.own ho O_p.out (Nat.lt_succ_self _))
  replace HO := Lib.hid (CurOut.mono (HO.out.trans ho) (show _ ≤ 44 by omega)); clear ho
  have Hz : Hid (0 ≤ z ∧ z ≤ 2) := by obtain ⟨h0, h1⟩ := hz; unfold Hid; rcases h1 with h1 | h1 <;> omega
  clear hz
  have hw3 : IntKind.i64.wrap (2 * z) = 2 * z := IntWalk.i64_in _ (by have := Hz.out; omega)
  have hw4 : IntKind.i64.wrap (x + 1 + 2 * z) = x + 1 + 2 * z := IntWalk.i64_in _ (by have := Hz.out; have := Hx.out; omega)
  go_wp2_with fail
  refine (pick_any w.heap.size 44 12 _ l _ HO.out.1 (HRD.out _ _ HO.out) (by omega) (by omega)).mono ?_
  rintro e w4 ⟨d, rfl, hd, ho⟩
  replace O_p := Lib.hid (CurOut.own ho O_p.out (Nat.lt_succ_self _))
  replace HO := Lib.hid (CurOut.mono (HO.out.trans ho) (show _ ≤ 46 by omega)); clear ho
  have Hd : Hid (0 ≤ d) := by obtain ⟨h0, h1⟩ := hd; unfold Hid; rcases h1 with h1 | h1 <;> omega
  clear hd
  have hd : d = 0 ∨ d = 1 ∨ (d ≠ 0 ∧ d ≠ 1) := by omega
  rcases hd with rfl | rfl | ⟨n0, n1⟩
  · go_wp2_with fail
    refine (among_own w.heap.size 46 (w.heap.size + 1) (.slice (some ⟨w4.heap.size, 0, none⟩) 3 3) _ l [-1, (l_p.length : Int), 4611686018427387904] (w4.alloc (.cells #[.int .i64 (-1), .int .i64 ((l_p.length : Int)), .int .i64 4611686018427387904] 3)) (HO.out.1.below (Below.alloc1 _ _)) ((HRD.out _ _ HO.out).below (Below.alloc1 _ _)) (World.ownsRow_lit w4 _ 3 (by have h9 := HO.out.2.size; rw [World.size_alloc] at h9; (try rw [World.size_alloc]); omega) (by unfold maxLen; omega) rfl) (by omega) (by simp) (by simp) (by omega)).mono ?_
    rintro e w5 ⟨y, rfl, hy, ho⟩
    replace O_p := Lib.hid (CurOut.own ho (O_p.out.below (Below.alloc1 _ _)) (Nat.lt_succ_self _))
    replace HO := Lib.hid (CurOut.mono ((CurOut.below HO.out (Below.alloc1 _ _)).trans ho) (show _ ≤ 48 by omega)); clear ho
    have Hy : Hid (-1 ≤ y ∧ y ≤ 4611686018427387904) := by
      simp only [List.mem_cons, List.not_mem_nil, or_false] at hy
      unfold Hid
      omega
    clear hy
    go_wp2_with fail
    go_ret3
    exact ⟨_, l_p, y, x + 1 + 2 * z, rfl, O_p.out.mono (by omega), hl_p, by have := Hy.out; omega, by have := Hx.out; have := Hz.out; omega, CurOut.toBelow HO.out⟩
  · go_wp2_with fail
    refine (among_own w.heap.size 46 (w.heap.size + 1) (.slice (some ⟨w4.heap.size, 0, none⟩) 5 5) _ l [-9223372036854775808, -1, 0, (l_p.length : Int) + 1, (l_p.length : Int) + 2] (w4.alloc (.cells #[.int .i64 (-9223372036854775808), .int .i64 (-1), .int .i64 0, .int .i64 ((l_p.length : Int) + 1), .int .i64 ((l_p.length : Int) + 2)] 3)) (HO.out.1.below (Below.alloc1 _ _)) ((HRD.out _ _ HO.out).below (Below.alloc1 _ _)) (World.ownsRow_lit w4 _ 5 (by have h9 := HO.out.2.size; rw [World.size_alloc] at h9; (try rw [World.size_alloc]); omega) (by unfold maxLen; omega) rfl) (by omega) (by simp) (by simp) (by omega)).mono ?_
    rintro e w5 ⟨y, rfl, hy, ho⟩
    replace O_p := Lib.hid (CurOut.own ho (O_p.out.below (Below.alloc1 _ _)) (Nat.lt_succ_self _))
    replace HO := Lib.hid (CurOut.mono ((CurOut.below HO.out (Below.alloc1 _ _)).trans ho) (show _ ≤ 48 by omega)); clear ho
    have Hy : Hid (-9223372036854775808 ≤ y ∧ y ≤ 4611686018427387904) := by
      simp only [List.mem_cons, List.not_mem_nil, or_false] at hy
      unfold Hid
      omega
    clear hy
    go_wp2_with fail
    go_ret3
    exact ⟨_, l_p, x, y, rfl, O_p.out.mono (by omega), hl_p, by have := Hx.out; omega, by have := Hy.out; omega, CurOut.toBelow HO.out⟩
  · have k0 : (d == 0) = false := beq_eq_false_iff_ne.2 n0
    have k1 : (d == 1) = false := beq_eq_false_iff_ne.2 n1
    clear n0 n1
    go_wp2_with fail
    go_ret3
    exact ⟨_, l_p, x, x + 1 + 2 * z, rfl, O_p.out.mono (by omega), hl_p, by have := Hx.out; omega, by have := Hx.out; have := Hz.out; omega, CurOut.toBelow HO.out⟩

end Go.Proofs.Ytbinpefogecgmaa
