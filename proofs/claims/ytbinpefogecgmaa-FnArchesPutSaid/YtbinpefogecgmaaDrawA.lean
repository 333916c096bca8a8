/- What is drawn for the laws on systems. -/
import Derived.Test.YtbinpefogecgmaaDrawS
namespace Go.Proofs.Ytbinpefogecgmaa
open Go.RowKit
set_option linter.unusedSimpArgs false
set_option linter.unusedVariables false

def I64 (x : Int) : Prop := -9223372036854775808 ≤ x ∧ x ≤ 9223372036854775807
def DrawnL (w : World) (K : Nat) (e : Ending) (w' : World) : Prop := ∃ (u : Value) (ls : List Int), e = .returned u ∧ Own w.heap.size w' u ls ∧ ls.length ≤ K ∧ Below w.heap.size w w'
def DrawnI (w : World) (P : Int → Prop) (e : Ending) (w' : World) : Prop := ∃ x : Int, e = .returned (.int .i64 x) ∧ P x ∧ Below w.heap.size w w'
def DrawnLI (w : World) (K : Nat) (P : Int → Prop) (e : Ending) (w' : World) : Prop := ∃ (u : Value) (ls : List Int) (x : Int), e = .returned (.tuple #[u, .int .i64 x]) ∧ Own w.heap.size w' u ls ∧ ls.length ≤ K ∧ P x ∧ Below w.heap.size w w'
def DrawnLII (w : World) (K : Nat) (P : Int → Prop) (e : Ending) (w' : World) : Prop := ∃ (u : Value) (ls : List Int) (x y : Int), e = .returned (.tuple #[u, .int .i64 x, .int .i64 y]) ∧ Own w.heap.size w' u ls ∧ ls.length ≤ K ∧ P x ∧ P y ∧ Below w.heap.size w w'
def DrawnLL2 (w : World) (K : Nat) (e : Ending) (w' : World) : Prop := ∃ (u1 u2 : Value) (l1 l2 : List Int), e = .returned (.tuple #[u1, u2]) ∧ Own w.heap.size w' u1 l1 ∧ Own w.heap.size w' u2 l2 ∧ l1.length ≤ K ∧ l2.length ≤ K ∧ Below w.heap.size w w'
def DrawnII (w : World) (P Q : Int → Prop) (e : Ending) (w' : World) : Prop := ∃ x y : Int, e = .returned (.tuple #[.int .i64 x, .int .i64 y]) ∧ P x ∧ Q y ∧ Below w.heap.size w w'

theorem cur_new (w : World) (v : Value) : CurC (w.alloc (.cells #[v, .int .i64 0, .int .u64 0] 70)) w.heap.size v 0 := ⟨0, 0, heap_alloc_new w _, by omega, by omega, by omega⟩
theorem CurOut.toBelow {w w' : World} {o : Obj} {v : Value} {M : Nat} (h : CurOut (w.alloc o) w.heap.size v M w') : Below w.heap.size w w' :=
  ⟨h.2.os, h.2.tape, h.2.output, Nat.le_trans (by simp) h.2.size, fun k hk => (h.2.block k (by simp; omega) (by simp; omega)).trans (by
    show (w.heap.push o)[k]? = _
    rw [Array.getElem?_push, if_neg (by omega)])⟩
theorem among_own (g M B : Nat) (u v : Value) (l ls : List Int) (w : World) (h : CurC w g v M) (hr : RdY w v l) (ho : Own B w u ls) (hB : g < B) (h0 : 0 < ls.length) (hls : ls.length ≤ 1000) (hM : M ≤ 900000) :
    Calls Try.prog 74 #[.pointer (some ⟨g, 0, none⟩), u] w (DrewI w g v (M + 2) (fun x => x ∈ ls)) :=
  among_any g M u v l ls w h hr (fun w' hc => (CurOut.own hc ho hB).rd) h0 hls hM
set_option maxHeartbeats 2000000 in
set_option maxRecDepth 100000 in
theorem arches_any (g M : Nat) (m : Nat) (v : Value) (l : List Int) (w : World) (h : CurC w g v M) (hr : RdY w v l) (hM : M ≤ 800000) (hm : m ≤ 100) :
    Calls Try.prog 71 #[.pointer (some ⟨g, 0, none⟩), .int .i64 (m : Int)] w (DrewI w g v (M + 4) (fun x => -1 ≤ x ∧ x ≤ 101)) := by
  have hgl := h.lt
  have HO := Lib.hid (one_any g M 8 v l w h hr (by omega) (by omega))
  have HP := Lib.hid (fun (w1 : World) (ho : CurOut w g v (M + 2) w1) => pick_any g (M + 2) ((m : Int) + 1) v l w1 ho.1 (CurOut.rd hr h ho) (by omega) (by omega))
  have HA := Lib.hid (fun (w1 : World) (ho : CurOut w g v (M + 2) w1) => among_own g (M + 2) (w.heap.size) (.slice (some ⟨w1.heap.size, 0, none⟩) 5 5) v l [-1, 0, 1, (m : Int), (m : Int) + 1] (w1.alloc (.cells #[.int .i64 (-1), .int .i64 0, .int .i64 1, .int .i64 m, .int .i64 ((m : Int) + 1)] 3)) (ho.1.below (Below.alloc1 _ _)) ((CurOut.rd hr h ho).below (Below.alloc1 _ _)) (World.ownsRow_lit w1 _ 5 ho.2.size (by unfold maxLen; omega) rfl) hgl (by simp) (by simp) (by omega))
  have hw1 : IntKind.i64.wrap ((m : Int) + 1) = (m : Int) + 1 := IntWalk.i64_in _ (by omega)
  have HIF : Hid (∀ b : Bool, b = true ∨ b = false) := fun b => by cases b <;> simp
  clear h hr
  go_enter Try.func71, Try.ntmps71
  go_wp2_with fail
  refine HO.out.mono ?_
  rintro e w1 ⟨b, rfl, ho1⟩
  have HO1 := Lib.hid ho1
  clear ho1
  rcases HIF.out b with rfl | rfl
  · go_wp2_with fail
    refine (HA.out w1 HO1.out).mono ?_
    rintro e w2 ⟨x, rfl, hx, ho2⟩
    have HO2 := Lib.hid ((CurOut.below HO1.out (Below.alloc1 _ _)).trans ho2)
    have HX : Hid (-1 ≤ x ∧ x ≤ 101) := by
      simp only [List.mem_cons, List.not_mem_nil, or_false] at hx
      show _ ∧ _
      omega
    clear hx ho2
    go_wp2_with fail
    go_ret
    exact ⟨x, rfl, HX.out, HO2.out⟩
  · go_wp2_with fail
    refine (HP.out w1 HO1.out).mono ?_
    rintro e w2 ⟨x, rfl, hx, ho2⟩
    have HO2 := Lib.hid (HO1.out.trans ho2)
    have HX : Hid (-1 ≤ x ∧ x ≤ 101) := by
      obtain ⟨h0, h1⟩ := hx
      show _ ∧ _
      rcases h1 with h1 | h1 <;> omega
    clear hx ho2
    go_wp2_with fail
    go_ret
    exact ⟨x, rfl, HX.out, HO2.out⟩
set_option maxHeartbeats 1000000 in
theorem drawIsSystem_any (v : Value) (l : List Int) (w : World) (hr : RdY w v l) : Calls Try.prog 90 #[v] w (DrawnL w 14) := by
  have HS := Lib.hid (system_any w.heap.size 0 6 v l _ (cur_new w v) (hr.below (Below.alloc1 _ _)) (by omega) (by omega))
  obtain ⟨y1, y2, rfl, _⟩ := hr
  go_enter Try.func90, Try.ntmps90
  go_wp2_with fail
  refine HS.out.mono ?_
  rintro e w1 ⟨u, ls, rfl, hq, hl, ho⟩
  obtain ⟨x1, x2, x3, rfl⟩ := hq.form'
  have HQ := Lib.hid hq; have HO := Lib.hid ho
  clear hq ho
  go_wp2_with fail
  go_ret
  exact ⟨_, ls, rfl, HQ.out.mono (by simp), hl, CurOut.toBelow HO.out⟩
set_option maxHeartbeats 1000000 in
theorem drawAllSystems_any (v : Value) (l : List Int) (w : World) (hr : RdY w v l) : Calls Try.prog 14 #[v] w (DrawnI w (fun x => -1 ≤ x ∧ x ≤ 101)) := by
  have HS := Lib.hid (arches_any w.heap.size 0 6 v l _ (cur_new w v) (hr.below (Below.alloc1 _ _)) (by omega) (by omega))
  obtain ⟨y1, y2, rfl, _⟩ := hr
  go_enter Try.func14, Try.ntmps14
  go_wp2_with fail
  refine HS.out.mono ?_
  rintro e w1 ⟨x, rfl, hx, ho⟩
  have HX := Lib.hid hx; have HO := Lib.hid ho
  clear hx ho
  go_wp2_with fail
  go_ret
  exact ⟨x, rfl, HX.out, CurOut.toBelow HO.out⟩
theorem drawNextSystem_any (v : Value) (l : List Int) (w : World) (hr : RdY w v l) : Calls Try.prog 24 #[v] w (DrawnL w 14) := by
  have HS := Lib.hid (drawIsSystem_any v l w hr)
  obtain ⟨y1, y2, rfl, _⟩ := hr
  go_enter Try.func24, Try.ntmps24
  go_wp2_with fail
  refine HS.out.mono ?_
  rintro e w1 ⟨u, ls, rfl, hq, hl, ho⟩
  obtain ⟨x1, x2, x3, rfl⟩ := hq.form'
  have HQ := Lib.hid hq; have HO := Lib.hid ho
  clear hq ho
  go_wp2_with fail
  go_ret
  exact ⟨_, ls, rfl, HQ.out, hl, HO.out⟩
theorem drawCoverSystem_any (v : Value) (l : List Int) (w : World) (hr : RdY w v l) : Calls Try.prog 34 #[v] w (DrawnL w 14) := by
  have HS := Lib.hid (drawIsSystem_any v l w hr)
  obtain ⟨y1, y2, rfl, _⟩ := hr
  go_enter Try.func34, Try.ntmps34
  go_wp2_with fail
  refine HS.out.mono ?_
  rintro e w1 ⟨u, ls, rfl, hq, hl, ho⟩
  obtain ⟨x1, x2, x3, rfl⟩ := hq.form'
  have HQ := Lib.hid hq; have HO := Lib.hid ho
  clear hq ho
  go_wp2_with fail
  go_ret
  exact ⟨_, ls, rfl, HQ.out, hl, HO.out⟩
theorem drawDepthsOf_any (v : Value) (l : List Int) (w : World) (hr : RdY w v l) : Calls Try.prog 52 #[v] w (DrawnL w 14) := by
  have HS := Lib.hid (drawIsSystem_any v l w hr)
  obtain ⟨y1, y2, rfl, _⟩ := hr
  go_enter Try.func52, Try.ntmps52
  go_wp2_with fail
  refine HS.out.mono ?_
  rintro e w1 ⟨u, ls, rfl, hq, hl, ho⟩
  obtain ⟨x1, x2, x3, rfl⟩ := hq.form'
  have HQ := Lib.hid hq; have HO := Lib.hid ho
  clear hq ho
  go_wp2_with fail
  go_ret
  exact ⟨_, ls, rfl, HQ.out, hl, HO.out⟩
theorem drawRainbowOf_any (v : Value) (l : List Int) (w : World) (hr : RdY w v l) : Calls Try.prog 40 #[v] w (DrawnI w (fun x => -1 ≤ x ∧ x ≤ 101)) := by
  have HS := Lib.hid (drawAllSystems_any v l w hr)
  obtain ⟨y1, y2, rfl, _⟩ := hr
  go_enter Try.func40, Try.ntmps40
  go_wp2_with fail
  refine HS.out.mono ?_
  rintro e w1 ⟨x, rfl, hx, ho⟩
  have HX := Lib.hid hx; have HO := Lib.hid ho
  clear hx ho
  go_wp2_with fail
  go_ret
  exact ⟨x, rfl, HX.out, HO.out⟩
set_option maxHeartbeats 2000000 in
theorem drawJoinSystems_any (v : Value) (l : List Int) (w : World) (hr : RdY w v l) : Calls Try.prog 31 #[v] w (DrawnLL2 w 14) := by
  have HR0 := Lib.hid (hr.below (Below.alloc1 w (.cells #[v, .int .i64 0, .int .u64 0] 70)))
  have HS := Lib.hid (system_any w.heap.size 0 4 v l _ (cur_new w v) HR0.out (by omega) (by omega))
  have HS2 := Lib.hid (fun w1 (ho : CurOut (w.alloc (.cells #[v, .int .i64 0, .int .u64 0] 70)) w.heap.size v (0 + 40) w1) => system_any w.heap.size (0 + 40) 4 v l w1 ho.1 (CurOut.rd HR0.out (cur_new w v) ho) (by omega) (by omega))
  obtain ⟨y1, y2, rfl, _⟩ := hr
  go_enter Try.func31, Try.ntmps31
  go_wp2_with fail
  refine HS.out.mono ?_
  rintro e w1 ⟨u, ls, rfl, hq, hl, ho⟩
  obtain ⟨x1, x2, x3, rfl⟩ := hq.form'
  have HQ := Lib.hid hq; have HO := Lib.hid ho
  clear hq ho
  go_wp2_with fail
  refine (HS2.out w1 HO.out).mono ?_
  rintro e w2 ⟨u2, ls2, rfl, hq2, hl2, ho2⟩
  obtain ⟨z1, z2, z3, rfl⟩ := hq2.form'
  have HQ2 := Lib.hid hq2; have HO2 := Lib.hid (HO.out.trans ho2); have HQ1 := Lib.hid (CurOut.own ho2 HQ.out (by simp))
  clear hq2 ho2
  go_wp2_with fail
  go_ret2
  exact ⟨_, _, ls, ls2, rfl, HQ1.out.mono (by simp), HQ2.out.mono (by have := HO.out.2.size; simp at this; omega), hl, hl2, CurOut.toBelow HO2.out⟩
set_option maxHeartbeats 2000000 in
set_option maxRecDepth 100000 in
theorem drawTurnSystem_any (v : Value) (l : List Int) (w : World) (hr : RdY w v l) : Calls Try.prog 28 #[v] w (DrawnLI w 14 (fun x => -101 ≤ x ∧ x ≤ 4611686018427387904)) := by
  have HR0 := Lib.hid (hr.below (Below.alloc1 w (.cells #[v, .int .i64 0, .int .u64 0] 70)))
  have HRD := Lib.hid (fun K w1 (ho : CurOut (w.alloc (.cells #[v, .int .i64 0, .int .u64 0] 70)) w.heap.size v K w1) => CurOut.rd HR0.out (cur_new w v) ho)
  have HP := Lib.hid (pick_any w.heap.size 0 25 v l _ (cur_new w v) HR0.out (by omega) (by omega))
  have HO8 := Lib.hid (fun w1 (ho : CurOut (w.alloc (.cells #[v, .int .i64 0, .int .u64 0] 70)) w.heap.size v (0 + 2) w1) => one_any w.heap.size (0 + 2) 8 v l w1 ho.1 (HRD.out _ w1 ho) (by omega) (by omega))
  have HS := Lib.hid (fun K w1 (ho : CurOut (w.alloc (.cells #[v, .int .i64 0, .int .u64 0] 70)) w.heap.size v K w1) (hK : K ≤ 100) => system_any w.heap.size K 6 v l w1 ho.1 (HRD.out _ w1 ho) (by omega) (by omega))
  have HA := Lib.hid (fun w1 (ho : CurOut (w.alloc (.cells #[v, .int .i64 0, .int .u64 0] 70)) w.heap.size v (0 + 2 + 2) w1) => among_own w.heap.size (0 + 2 + 2) (w.heap.size + 1) (.slice (some ⟨w1.heap.size, 0, none⟩) 5 5) v l [-101, -100, 100, 101, 4611686018427387904] (w1.alloc (.cells #[.int .i64 (-101), .int .i64 (-100), .int .i64 100, .int .i64 101, .int .i64 4611686018427387904] 3)) (ho.1.below (Below.alloc1 _ _)) ((HRD.out _ w1 ho).below (Below.alloc1 _ _)) (World.ownsRow_lit w1 _ 5 (by have := ho.2.size; simp at this; omega) (by unfold maxLen; omega) rfl) (by omega) (by simp) (by simp) (by omega))
  have HIF : Hid (∀ b : Bool, b = true ∨ b = false) := fun b => by cases b <;> simp
  obtain ⟨y1, y2, rfl, _⟩ := hr
  go_enter Try.func28, Try.ntmps28
  go_wp2_with fail
  refine HP.out.mono ?_
  rintro e w1 ⟨x, rfl, ⟨hx0, hx1⟩, ho1⟩
  have HO1 := Lib.hid ho1
  have hw1 : IntKind.i64.wrap (x - 12) = x - 12 := IntWalk.i64_in _ (by omega)
  have HX : Hid (-101 ≤ x - 12 ∧ x - 12 ≤ 4611686018427387904) := by show _ ∧ _; rcases hx1 with hx1 | hx1 <;> omega
  clear ho1 hx0 hx1
  go_wp2_with fail
  refine (HO8.out w1 HO1.out).mono ?_
  rintro e w2 ⟨b, rfl, ho2⟩
  have HO2 := Lib.hid (HO1.out.trans ho2)
  clear ho2
  rcases HIF.out b with rfl | rfl
  · go_wp2_with fail
    refine (HA.out w2 HO2.out).mono ?_
    rintro e w3 ⟨z, rfl, hz, ho3⟩
    have HO3 := Lib.hid ((CurOut.below HO2.out (Below.alloc1 _ _)).trans ho3)
    have HZ : Hid (-101 ≤ z ∧ z ≤ 4611686018427387904) := by
      simp only [List.mem_cons, List.not_mem_nil, or_false] at hz
      show _ ∧ _
      omega
    clear hz ho3
    go_wp2_with fail
    refine (HS.out _ w3 HO3.out (by omega)).mono ?_
    rintro e w4 ⟨u, ls, rfl, hq, hl, ho⟩
    obtain ⟨x1, x2, x3, rfl⟩ := hq.form'
    have HQ := Lib.hid hq; have HO := Lib.hid (HO3.out.trans ho)
    clear hq ho
    go_wp2_with fail
    go_ret2
    exact ⟨_, ls, z, rfl, HQ.out.mono (by have := HO3.out.2.size; simp at this; omega), hl, HZ.out, CurOut.toBelow HO.out⟩
  · go_wp2_with fail
    refine (HS.out _ w2 HO2.out (by omega)).mono ?_
    rintro e w4 ⟨u, ls, rfl, hq, hl, ho⟩
    obtain ⟨x1, x2, x3, rfl⟩ := hq.form'
    have HQ := Lib.hid hq; have HO := Lib.hid (HO2.out.trans ho)
    clear hq ho
    go_wp2_with fail
    go_ret2
    exact ⟨_, ls, x - 12, rfl, HQ.out.mono (by have := HO2.out.2.size; simp at this; omega), hl, HX.out, CurOut.toBelow HO.out⟩

end Go.Proofs.Ytbinpefogecgmaa
