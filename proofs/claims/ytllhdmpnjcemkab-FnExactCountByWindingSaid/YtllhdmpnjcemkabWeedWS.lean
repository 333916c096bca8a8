/- WindStep. -/
import Derived.Test.YtllhdmpnjcemkabWeedStepI
namespace Go.Proofs.Ytllhdmpnjcemkab
open Go.RowKit
set_option linter.unusedSimpArgs false
set_option linter.unusedVariables false

theorem flipB_any (u1 u2 : Value) (t b : List Int) (w : World) (h1 : Rd w u1 t) (h2 : Rd w u2 b) : Calls Try.prog 110 #[.agg #[], .agg #[u1, u2]] w (BehindOut w u1 u2 b t) := by
  obtain ⟨a1, c1, rfl, _⟩ := id h1
  obtain ⟨a2, c2, rfl, _⟩ := id h2
  exact (flip_any a1 a2 t.length b.length c1 c2 w).mono fun e w' ⟨he, hb⟩ => ⟨_, _, he, h2.below hb, h1.below hb, hb, fun b hb => .inr (.inl hb), fun b hb => .inl hb⟩
/-- what the step that comes next is, and what it does -/
theorem step_kinds {t b : List Int} (h : weedB t b = true) (t0 : 0 < t.length) :
    (stepV t b = .iface 92 (.agg #[]) ∧ ∀ w u1 u2, Rd w u1 t → Rd w u2 b → Calls Try.prog 110 #[.agg #[], .agg #[u1, u2]] w (BehindOut w u1 u2 (stepT t b) (stepB t b))) ∨
    (stepV t b = .iface 83 (.agg #[.int .i64 (hdI t)]) ∧ ∀ w u1 u2, Rd w u1 t → Rd w u2 b → Calls Try.prog 109 #[.agg #[.int .i64 (hdI t)], .agg #[u1, u2]] w (BehindOut w u1 u2 (stepT t b) (stepB t b))) ∨
    (stepV t b = .iface 96 (.agg #[.int .i64 (hdI b)]) ∧ ∀ w u1 u2, Rd w u1 t → Rd w u2 b → Calls Try.prog 113 #[.agg #[.int .i64 (hdI b)], .agg #[u1, u2]] w (BehindOut w u1 u2 (stepT t b) (stepB t b))) ∨
    (stepV t b = .iface 94 (.agg #[.int .i64 (hdI t), .int .i64 (hdI b)]) ∧ ∀ w u1 u2, Rd w u1 t → Rd w u2 b → Calls Try.prog 111 #[.agg #[.int .i64 (hdI t), .int .i64 (hdI b)], .agg #[u1, u2]] w (BehindOut w u1 u2 (stepT t b) (stepB t b))) ∨
    (stepV t b = .iface 97 (.agg #[.int .i64 (hdI t), .int .i64 (hdI b)]) ∧ ∀ w u1 u2, Rd w u1 t → Rd w u2 b → Calls Try.prog 114 #[.agg #[.int .i64 (hdI t), .int .i64 (hdI b)], .agg #[u1, u2]] w (BehindOut w u1 u2 (stepT t b) (stepB t b))) := by
  have hl := weed_lens h
  have b0 : 0 < b.length := by have := weed_empty h; omega
  have hx := parts_rng (weed_facts h).1 0 t0
  have hy := parts_rng (weed_facts h).2.1 0 b0
  have hx' : 1 ≤ hdI t ∧ hdI t ≤ 20 := hx
  have hy' : 1 ≤ hdI b ∧ hdI b ≤ 20 := hy
  unfold stepV stepT stepB
  by_cases c1 : hdI t < hdI b
  · left; rw [if_pos c1, if_pos c1, if_pos c1]; exact ⟨rfl, fun w u1 u2 h1 h2 => flipB_any u1 u2 t b w h1 h2⟩
  right
  rw [if_neg c1, if_neg c1, if_neg c1]
  by_cases c2 : hdI t = hdI b
  · left; rw [if_pos c2, if_pos c2, if_pos c2]; exact ⟨rfl, fun w u1 u2 h1 h2 => elimination_any _ u1 u2 t b w h1 h2 t0 b0⟩
  right
  rw [if_neg c2, if_neg c2, if_neg c2]
  by_cases c3 : hdI t = 2 * hdI b
  · left; rw [if_pos c3, if_pos c3, if_pos c3]; exact ⟨rfl, fun w u1 u2 h1 h2 => blockElimination_any _ u1 u2 t b w h1 h2 t0 b0 hl.1⟩
  right
  rw [if_neg c3, if_neg c3, if_neg c3]
  by_cases c4 : hdI t < 2 * hdI b
  · left; rw [if_pos c4, if_pos c4, if_pos c4]; exact ⟨rfl, fun w u1 u2 h1 h2 => rotation_any _ _ (by omega) (by omega) (by omega) (by omega) u1 u2 t b w h1 h2 t0 b0 hl.1 hl.2⟩
  right
  rw [if_neg c4, if_neg c4, if_neg c4]
  exact ⟨rfl, fun w u1 u2 h1 h2 => contraction_any _ _ (by omega) (by omega) (by omega) (by omega) u1 u2 t b w h1 h2 t0 b0 hl.1⟩
theorem isEmpty_any (a1 a2 : Option Addr) (n1 n2 c1 c2 : Nat) (w : World) : Calls Try.prog 56 #[.agg #[.slice a1 n1 c1, .slice a2 n2 c2]] w fun e w' => e = .returned (.bool ((n1 : Int) == 0)) ∧ Below w.heap.size w w' := by
  go_enter Try.func56, Try.ntmps56
  go_wp2
  go_ret
  exact ⟨rfl, Below.alloc1 _ _⟩

/-! WindStep -/
def GivesX (w : World) (t b : List Int) (s : ByteArray) (ok : Bool) (e : Ending) (w' : World) : Prop := ∃ v1 v2, e = .returned (.tuple #[.agg #[v1, v2], .string s, .bool ok]) ∧ Own w.heap.size w' v1 t ∧ Own w.heap.size w' v2 b ∧ ApartV v1 v2 ∧ Below w.heap.size w w'
def ok_WindStep (t b : List Int) : Bool := weedB t b && decide (0 < t.length)
def res1_WindStep (t b : List Int) : List Int := if ok_WindStep t b then stepT t b else []
def res2_WindStep (t b : List Int) : List Int := if ok_WindStep t b then stepB t b else []
def res3_WindStep (t b : List Int) : ByteArray := if ok_WindStep t b then letB (stepN t b) else ByteArray.empty
theorem len_WindStep (t b : List Int) : (res1_WindStep t b).length ≤ 1000000 ∧ (res2_WindStep t b).length ≤ 1000000 := by
  unfold res1_WindStep res2_WindStep
  split
  · next h =>
    simp only [ok_WindStep, Bool.and_eq_true, decide_eq_true_iff] at h
    have := weed_lens (step_weed h.1 h.2).1; omega
  · simp
theorem results_x (F : Func) (hr : F.results = #[.cell 2 28, .tmp 3, .tmp 4]) (tmps : Array Value) (w : World) (g : Nat) (v1 v2 : Value) (s : ByteArray) (ok : Bool) (hg : Box2 28 w g v1 v2) (h2 : tmps.getD 2 undef = .pointer (some ⟨g, 0, none⟩)) (h3 : tmps.getD 3 undef = .string s) (h4 : tmps.getD 4 undef = .bool ok) :
    (results F tmps).run Try.prog w = .ok (.tuple #[.agg #[v1, v2], .string s, .bool ok]) w := by
  have h2' : tmps[2]?.getD undef = .pointer (some ⟨g, 0, none⟩) := by simpa using h2
  have h3' : tmps[3]?.getD undef = .string s := by simpa using h3
  have h4' : tmps[4]?.getD undef = .bool ok := by simpa using h4
  simp [results, hr, h2', h3', h4', asAddr, run_loadSea w g v1 v2 hg]
end Go.Proofs.Ytllhdmpnjcemkab
