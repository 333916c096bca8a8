/- big told in full, components counted by the laws, and what is drawn for the law on moved joins. -/
import Derived.Test.YtbinpefogecgmabDrawC
import Derived.Test.YtbinpefogecgmabComps
namespace Go.Proofs.Ytbinpefogecgmab
open Go.RowKit
set_option linter.unusedSimpArgs false
set_option linter.unusedVariables false

/-- .. and where it says no, both are short -/
def BigOut (n1 n2 : Nat) (w : World) (e : Ending) (w' : World) : Prop := ∃ b : Bool, e = .returned (.bool b) ∧ w' = w ∧ (b = false → n1 ≤ 1048576 ∧ n2 ≤ 1048576)
set_option maxHeartbeats 1000000 in
theorem big_yes (a1 : Option Addr) (n1 c1 : Nat) (l1 : List Int) (a2 : Option Addr) (n2 c2 : Nat) (l2 : List Int) (w : World) (y1 : RdY w (.slice a1 n1 c1) l1) (y2 : RdY w (.slice a2 n2 c2) l2) :
    Calls Try.prog 7 #[.slice a1 n1 c1, .slice a2 n2 c2] w (BigOut n1 n2 w) := by
  have h1 : n1 ≤ 9223372036854775807 := by
    obtain ⟨a, c, e, h2, h3, _⟩ := y1
    simp only [Value.slice.injEq] at e
    unfold maxLen at h3; omega
  have h2 : n2 ≤ 9223372036854775807 := by
    obtain ⟨a, c, e, h2, h3, _⟩ := y2
    simp only [Value.slice.injEq] at e
    unfold maxLen at h3; omega
  clear y1 y2
  go_enter Try.func7, Try.ntmps7
  by_cases h : n1 ≤ 1048576
  · have hw : IntKind.i64.wrap (1048576 - (n1 : Int)) = 1048576 - (n1 : Int) := IntWalk.i64_in _ (by omega)
    have hg : ¬ (1048576 : Int) < (n1 : Int) := by omega
    by_cases h3 : n2 ≤ 1048576
    · go_wp2
      go_ret
      exact ⟨_, rfl, rfl, fun _ => ⟨h, h3⟩⟩
    · have hn : 1048576 - (n1 : Int) < (n2 : Int) := by omega
      go_wp2
      go_ret
      exact ⟨true, rfl, rfl, fun e => by cases e⟩
  · have hg : (1048576 : Int) < (n1 : Int) := by omega
    go_wp2
    go_ret
    exact ⟨true, rfl, rfl, fun e => by cases e⟩
set_option maxHeartbeats 1000000 in
theorem sCount_any (a b : List Int) (u1 u2 : Value) (w : World) (h1 : Rd w u1 a) (h2 : Rd w u2 b) (m1 : a.length ≤ 1048576) (m2 : b.length ≤ 1048576) :
    Calls Try.prog 32 #[u1, u2] w fun e w' => e = .returned (.int .i64 (res_ComponentsOf a b)) ∧ Below w.heap.size w w' := by
  have HC := Lib.hid (impl_ComponentsOf a b w u1 u2 h1 h2 m1 m2)
  obtain ⟨a1, c1, rfl, _⟩ := h1
  obtain ⟨a2, c2, rfl, _⟩ := h2
  go_enter Try.func32, Try.ntmps32
  go_wp2_with fail
  refine HC.out.mono ?_
  rintro e w1 ⟨rfl, hb⟩
  go_wp2_with fail
  go_ret
  exact ⟨rfl, hb⟩
set_option maxHeartbeats 4000000 in
set_option maxRecDepth 100000 in
theorem drawJoinedSystem_any (v : Value) (l : List Int) (w : World) (hr : RdY w v l) : Calls Try.prog 26 #[v] w (DrawnLI w 14 (fun x => -1 ≤ x ∧ x ≤ 20)) := by
  have HR0 := Lib.hid (hr.below (Below.alloc1 w (.cells #[v, .int .i64 0, .int .u64 0] 64)))
  have HRD := Lib.hid (fun K w1 (ho : CurOut (w.alloc (.cells #[v, .int .i64 0, .int .u64 0] 64)) w.heap.size v K w1) => CurOut.rd HR0.out (cur_new w v) ho)
  have HO : Hid (CurOut (w.alloc (.cells #[v, .int .i64 0, .int .u64 0] 64)) w.heap.size v 0 (w.alloc (.cells #[v, .int .i64 0, .int .u64 0] 64))) := CurOut.refl (k := 0) (cur_new w v)
  have HIF : Hid (∀ b : Bool, b = true ∨ b = false) := fun b => by cases b <;> simp
  obtain ⟨y1, y2, rfl, _⟩ := hr
  go_enter Try.func26, Try.ntmps26
  go_wp2_with fail
  refine (system_any w.heap.size 0 6 _ l _ HO.out.1 (HRD.out _ _ HO.out) (by omega) (by omega)).mono ?_
  rintro e w1 ⟨v_p, l_p, rfl, hq, hl_p, ho⟩
  obtain ⟨pa, pc, rfl, pc1, pc2⟩ := hq.form; unfold maxLen at pc2
  have O_p : Hid (Own (w.heap.size + 1) w1 _ _) := hq.mono (by have h9 := HO.out.2.size; simp only [World.size_alloc] at h9; (try simp only [World.size_alloc]); omega); clear hq
  replace HO := Lib.hid (CurOut.mono (HO.out.trans ho) (show _ ≤ 40 by omega)); clear ho
  have hw1 : IntKind.i64.wrap ((l_p.length : Int) + 1) = (l_p.length : Int) + 1 := IntWalk.i64_in _ (by omega)
  go_wp2_with fail
  refine (pick_any w.heap.size 40 ((l_p.length : Int) + 1) _ l _ HO.out.1 (HRD.out _ _ HO.out) (by omega) (by omega)).mono ?_
  rintro e w2 ⟨x, rfl, hx, ho⟩
  replace O_p := Lib.hid (CurOut.own ho O_p.out (Nat.lt_succ_self _))
  replace HO := Lib.hid (CurOut.mono (HO.out.trans ho) (show _ ≤ 42 by omega)); clear ho
  have Hx : Hid (0 ≤ x ∧ x ≤ 15) := by obtain ⟨h0, h1⟩ := hx; unfold Hid; rcases h1 with h1 | h1 <;> omega
  clear hx
  have hw2 : IntKind.i64.wrap (x - 1) = x - 1 := IntWalk.i64_in _ (by have := Hx.out; omega)
  go_wp2_with fail
  go_ret2
  exact ⟨_, l_p, x - 1, rfl, O_p.out.mono (by omega), hl_p, by have := Hx.out; omega, CurOut.toBelow HO.out⟩

end Go.Proofs.Ytbinpefogecgmab
