/- CountByWinding. -/
import Derived.Test.YtllhdmpnjcemkabWeedWind
namespace Go.Proofs.Ytllhdmpnjcemkab
open Go.RowKit
set_option linter.unusedSimpArgs false
set_option linter.unusedVariables false

def tkP (c : Nat) : Int := if c % 5 = 1 then ((c / 5 : Nat) : Int) % 2 else 0
def tkQ (c : Nat) : Int := if c % 5 = 1 then ((c / 5 : Nat) : Int) / 2 else 0
def cntP (d : List (List Int × List Int × Nat)) : Int := (d.map (fun x => tkP x.2.2)).sum
def cntQ (d : List (List Int × List Int × Nat)) : Int := (d.map (fun x => tkQ x.2.2)).sum
theorem cntP_snoc (d : List (List Int × List Int × Nat)) (x : List Int × List Int × Nat) : cntP (d ++ [x]) = cntP d + tkP x.2.2 := by simp [cntP]
theorem cntQ_snoc (d : List (List Int × List Int × Nat)) (x : List Int × List Int × Nat) : cntQ (d ++ [x]) = cntQ d + tkQ x.2.2 := by simp [cntQ]
theorem tk_bound {T B : List Int} (h1 : 1 ≤ hdI T) (h2 : hdI T ≤ 20) : 0 ≤ tkP (stepC T B) ∧ tkP (stepC T B) ≤ 20 ∧ 0 ≤ tkQ (stepC T B) ∧ tkQ (stepC T B) ≤ 20 := by
  unfold tkP tkQ
  rw [stepC_div]
  split <;> omega
theorem stepN_one {T B : List Int} : stepN T B = 1 ↔ hdI T = hdI B := by
  unfold stepN
  split
  · constructor
    · intro h; cases h
    · intro h; omega
  · split
    · next h => exact ⟨fun _ => h, fun _ => rfl⟩
    · next h =>
      constructor
      · intro hh; split at hh
        · cases hh
        · split at hh <;> cases hh
      · intro hh; exact absurd hh h
theorem tk_yes {T B : List Int} (h : hdI T = hdI B) (h1 : 1 ≤ hdI T) : tkP (stepC T B) = hdI T % 2 ∧ tkQ (stepC T B) = hdI T / 2 := by
  unfold tkP tkQ
  rw [stepC_mod, stepC_div, stepN_one.2 h, if_pos rfl, if_pos rfl]
  rw [Int.toNat_of_nonneg (by omega)]; exact ⟨rfl, rfl⟩
theorem tk_no {T B : List Int} (h : ¬ hdI T = hdI B) : tkP (stepC T B) = 0 ∧ tkQ (stepC T B) = 0 := by
  unfold tkP tkQ
  rw [stepC_mod, if_neg (fun e => h (stepN_one.1 e)), if_neg (fun e => h (stepN_one.1 e))]; exact ⟨rfl, rfl⟩
theorem windM_le2 {t b : List Int} (h : weedB t b = true) : windM t b ≤ 41 := by
  have := parts_facts (weed_facts h).1
  unfold windM; split <;> omega

def ok_CountByWinding (t b : List Int) : Bool := weedB t b
def res1_CountByWinding (t b : List Int) : Int := if weedB t b then cntP (windAll t b) else 0
def res2_CountByWinding (t b : List Int) : Int := if weedB t b then cntQ (windAll t b) else 0

theorem cnt_info : (Try.prog.info? 55).map (·.size) = some 2 := by kernel_rfl
theorem results_tk (tmps : Array Value) (w : World) (g : Nat) (v1 v2 : Value) (hg : Box2 55 w g v1 v2) (h2 : tmps.getD 2 undef = .pointer (some ⟨g, 0, none⟩)) :
    (results Try.f39 tmps).run Try.prog w = .ok (.agg #[v1, v2]) w :=
  results_cell_row (by kernel_rfl) tmps w g _ #[v1, v2] _ _ h2 hg Try.underlying55 rfl (by rw [cnt_info]; rfl)
theorem ta2_yes (v : Value) (xT : TypeId) (w : World) : (Instr.typeAssert (.iface 83 v) xT 83 true).run Try.prog w = .ok (.tuple #[v, .bool true]) w := by
  simp [Instr.typeAssert, run_underlying Try.underlying83]
theorem zero2 : (Try.prog.info? 83).map (·.zero) = some (some (.agg #[.int .i64 0])) := by kernel_rfl
theorem ta2_no_flip (v : Value) (xT : TypeId) (w : World) : (Instr.typeAssert (.iface 92 v) xT 83 true).run Try.prog w = .ok (.tuple #[.agg #[.int .i64 0], .bool false]) w := by
  obtain ⟨j, hj, hz⟩ := Option.map_eq_some_iff.1 zero2
  simp [Instr.typeAssert, run_underlying Try.underlying83, zeroValue, typeInfo, hj, hz]
theorem ta2_no_blockElimination (v : Value) (xT : TypeId) (w : World) : (Instr.typeAssert (.iface 96 v) xT 83 true).run Try.prog w = .ok (.tuple #[.agg #[.int .i64 0], .bool false]) w := by
  obtain ⟨j, hj, hz⟩ := Option.map_eq_some_iff.1 zero2
  simp [Instr.typeAssert, run_underlying Try.underlying83, zeroValue, typeInfo, hj, hz]
theorem ta2_no_rotation (v : Value) (xT : TypeId) (w : World) : (Instr.typeAssert (.iface 94 v) xT 83 true).run Try.prog w = .ok (.tuple #[.agg #[.int .i64 0], .bool false]) w := by
  obtain ⟨j, hj, hz⟩ := Option.map_eq_some_iff.1 zero2
  simp [Instr.typeAssert, run_underlying Try.underlying83, zeroValue, typeInfo, hj, hz]
theorem ta2_no_contraction (v : Value) (xT : TypeId) (w : World) : (Instr.typeAssert (.iface 97 v) xT 83 true).run Try.prog w = .ok (.tuple #[.agg #[.int .i64 0], .bool false]) w := by
  obtain ⟨j, hj, hz⟩ := Option.map_eq_some_iff.1 zero2
  simp [Instr.typeAssert, run_underlying Try.underlying83, zeroValue, typeInfo, hj, hz]
set_option maxHeartbeats 1000000 in
set_option maxRecDepth 100000 in
theorem takenBy_any (T B : List Int) (w : World) (h1 : 1 ≤ hdI T) (h2 : hdI T ≤ 20) : Calls Try.prog 39 #[stepV T B] w fun e w' => e = .returned (.agg #[.int .i64 (tkP (stepC T B)), .int .i64 (tkQ (stepC T B))]) ∧ Below w.heap.size w w' := by
  by_cases he : hdI T = hdI B
  · obtain ⟨e1, e2⟩ := tk_yes he h1
    rw [e1, e2]
    unfold stepV
    rw [if_neg (by omega), if_pos he]
    have ta := ta2_yes
    clear e1 e2 he
    generalize hdI T = x at *
    go_enter Try.func39, Try.ntmps39
    go_wp2
    exact bodyPost_ret (results_tk _ _ w.heap.size _ _ (Box2.below (Box2.new 55 w _ _) (Below.alloc1 _ _)) rfl) rfl ⟨rfl, below2 w _ _⟩
  · obtain ⟨e1, e2⟩ := tk_no (B := B) he
    rw [e1, e2]
    unfold stepV
    by_cases qf : hdI T < hdI B
    · rw [if_pos qf]
      have ta := ta2_no_flip
      go_enter Try.func39, Try.ntmps39
      go_wp2
      exact bodyPost_ret (results_tk _ _ w.heap.size _ _ (Box2.below (Box2.new 55 w _ _) (Below.alloc1 _ _)) rfl) rfl ⟨rfl, below2 w _ _⟩
    rw [if_neg qf]
    rw [if_neg he]
    by_cases qb : hdI T = 2 * hdI B
    · rw [if_pos qb]
      have ta := ta2_no_blockElimination
      go_enter Try.func39, Try.ntmps39
      go_wp2
      exact bodyPost_ret (results_tk _ _ w.heap.size _ _ (Box2.below (Box2.new 55 w _ _) (Below.alloc1 _ _)) rfl) rfl ⟨rfl, below2 w _ _⟩
    rw [if_neg qb]
    by_cases qr : hdI T < 2 * hdI B
    · rw [if_pos qr]
      have ta := ta2_no_rotation
      go_enter Try.func39, Try.ntmps39
      go_wp2
      exact bodyPost_ret (results_tk _ _ w.heap.size _ _ (Box2.below (Box2.new 55 w _ _) (Below.alloc1 _ _)) rfl) rfl ⟨rfl, below2 w _ _⟩
    rw [if_neg qr]
    have ta := ta2_no_contraction
    go_enter Try.func39, Try.ntmps39
    go_wp2
    exact bodyPost_ret (results_tk _ _ w.heap.size _ _ (Box2.below (Box2.new 55 w _ _) (Below.alloc1 _ _)) rfl) rfl ⟨rfl, below2 w _ _⟩
theorem results_pl (tmps : Array Value) (w : World) (g : Nat) (v1 v2 : Value) (hg : Box2 55 w g v1 v2) (h2 : tmps.getD 4 undef = .pointer (some ⟨g, 0, none⟩)) :
    (results Try.f38 tmps).run Try.prog w = .ok (.agg #[v1, v2]) w :=
  results_cell_row (by kernel_rfl) tmps w g _ #[v1, v2] _ _ h2 hg Try.underlying55 rfl (by rw [cnt_info]; rfl)
set_option maxHeartbeats 1000000 in
theorem plus_any (p q r s : Int) (w : World) (hp : 0 ≤ p ∧ p ≤ 10000) (hq : 0 ≤ q ∧ q ≤ 10000) (hr : 0 ≤ r ∧ r ≤ 10000) (hs : 0 ≤ s ∧ s ≤ 10000) :
    Calls Try.prog 38 #[.agg #[.int .i64 p, .int .i64 q], .agg #[.int .i64 r, .int .i64 s]] w fun e w' => e = .returned (.agg #[.int .i64 (p + r), .int .i64 (q + s)]) ∧ Below w.heap.size w w' := by
  go_enter Try.func38, Try.ntmps38
  go_wp2
  exact bodyPost_ret (results_pl _ _ (w.heap.size + 1 + 1) _ _ (Box2.at2 55 w _ _ _ _) rfl) rfl ⟨rfl, below3 w _ _ _⟩
end Go.Proofs.Ytllhdmpnjcemkab
