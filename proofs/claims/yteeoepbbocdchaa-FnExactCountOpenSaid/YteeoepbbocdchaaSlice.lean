/- Contracts of the laws' own helpers on slices of int. -/
import Derived.Test.YteeoepbbocdchaaBase
import Derived.Deep.QuietTactic
import Derived.BigQuiet
namespace Go.Proofs.Yteeoepbbocdchaa
open Go.RowKit
set_option linter.unusedSimpArgs false
set_option linter.unusedVariables false

set_option maxHeartbeats 400000 in
theorem toIntS_any (v : Value) (l : List Int) (w : World) (h : Rd w v l) (hl : l.length ≤ 1048576) :
    Calls Try.prog 12 #[v] w fun e w' => ∃ v', e = .returned v' ∧ Own w.heap.size w' v' l ∧ Below w.heap.size w w' := by
  have hrd0 := h
  obtain ⟨a, c, rfl, hlc, hcm, _, hrd⟩ := h
  obtain ⟨n, hn⟩ : ∃ n, n = l.length := ⟨_, rfl⟩
  rw [← hn] at hrd hlc hl hrd0 ⊢
  unfold maxLen at hcm
  have HN := Lib.hid hn; clear hn
  have HR := Lib.hid hrd0; clear hrd0
  have HR2 := Lib.hid hrd; clear hrd
  go_enter Try.func12, Try.ntmps12
  go_wp2_with (at_make; refine wp_make w rfl _ _ rfl n _ _ rfl rfl rfl rfl (by omega) ?_; intro w1 hown hbel hsz)
  go_loopw [4] (fun i wr => ∃ k : Nat, k ≤ n ∧ i = .int .i64 k ∧ Own w.heap.size wr (.slice (some ⟨w.heap.size, 0, none⟩) n n) (l.take k ++ List.replicate (n - k) 0) ∧ Below w.heap.size w wr) (fun i _ => n - (intOf i).toNat)
  case atStart => exact ⟨0, by omega, rfl, by simpa using hown, hbel⟩
  case round =>
    obtain ⟨k, hk, rfl, hownr, hbelr⟩ := hrel
    clear hown hbel hsz
    by_cases hlt : k < n
    · rcases HR2.out with h0 | ⟨b, off, rfl, hcell⟩
      · exfalso; rw [HN.out, h0] at hlt; simp at hlt
      have hsrc : wr.cell? ⟨b, off + k, none⟩ = some (.int .i64 (l.getD k 0)) := by
        have := hcell k hlt
        exact (hbelr.cell (p := ⟨b, off + k, none⟩) (World.block_lt_of_cell? w _ this)).trans this
      have hdst := hownr.cellAt k (by simp [← HN.out]; omega)
      have hfr := hownr.frozenAt k
      have hnew := hownr.stored k (l.getD k 0)
      rw [fill_set l n k HN.out hlt] at hnew
      have HW := Lib.hid hnew; clear hnew
      have hbs : Below w.heap.size w (wr.setCell ⟨w.heap.size, k, none⟩ (.int .i64 (l.getD k 0))) := hbelr.setCell (Nat.le_refl _) _
      have HB := Lib.hid hbs; clear hbs
      clear hownr hbelr hcell
      go_wp2
      go_roundw
      case rel => exact ⟨k + 1, by omega, by go_num, HW.out, HB.out⟩
      case measure => simp [intOf]; omega
    · obtain rfl : k = n := by omega
      go_wp2
      go_ret
      refine ⟨_, rfl, ?_, hbelr⟩
      rw [HN.out] at hownr ⊢
      simpa using hownr

/-- the numbers k, k + 1, .. -/
def marks (k : Int) (n : Nat) : List Int := (List.range n).map fun (i : Nat) => k + (i : Int)

theorem marks_length (k : Int) (n : Nat) : (marks k n).length = n := by simp [marks]
theorem marks_get (k : Int) (n i : Nat) (h : i < n) : (marks k n).getD i 0 = k + i := by simp [marks, List.getD, h]

def Equal (w : World) (e : Ending) (w' : World) : Prop := e = .returned (.bool true) ∧ ∃ q, w' = w.drewN q

set_option maxHeartbeats 400000 in
theorem eqIntS_same (v1 v2 : Value) (l : List Int) (w : World) (h1 : Rd w v1 l) (h2 : Rd w v2 l) :
    Calls Try.prog 15 #[v1, v2] w (Equal w) := by
  obtain ⟨a1, c1, rfl, hlc1, hcm1, _, hrd1⟩ := h1
  obtain ⟨a2, c2, rfl, hlc2, hcm2, _, hrd2⟩ := h2
  obtain ⟨n, hn⟩ : ∃ n, n = l.length := ⟨_, rfl⟩
  rw [← hn] at hrd1 hrd2 hlc1 hlc2 ⊢
  unfold maxLen at hcm1 hcm2
  have HN := Lib.hid hn; clear hn
  have HR1 := Lib.hid hrd1; clear hrd1
  have HR2 := Lib.hid hrd2; clear hrd2
  go_enter Try.func15, Try.ntmps15
  go_wp2
  go_loopw [5] (fun i wr => ∃ k q : Nat, k ≤ n ∧ i = .int .i64 k ∧ wr = w.drewN q) (fun i _ => n - (intOf i).toNat)
  case atStart => exact ⟨0, 0, by omega, rfl, rfl⟩
  case round =>
    obtain ⟨k, q, hk, rfl, rfl⟩ := hrel
    by_cases hlt : k < n
    · rcases HR1.out with h0 | ⟨b1, off1, rfl, hcell1⟩
      · exfalso; rw [HN.out, h0] at hlt; simp at hlt
      rcases HR2.out with h0 | ⟨b2, off2, rfl, hcell2⟩
      · exfalso; rw [HN.out, h0] at hlt; simp at hlt
      have hc1 := hcell1 k hlt
      have hc2 := hcell2 k hlt
      clear hcell1 hcell2
      generalize l.getD k 0 = x at hc1 hc2
      go_wp2
      go_quiet (fail)
      go_wp2
      go_roundw
      case rel => exact ⟨k + 1, _, by omega, by go_num, rfl⟩
      case measure => simp [intOf]; omega
    · obtain rfl : k = n := by omega
      go_wp2
      go_ret
      exact ⟨rfl, _, rfl⟩

def Marked (B : Nat) (w : World) (v : Value) (k : Int) (n : Nat) (e : Ending) (w' : World) : Prop :=
  e = .returned (.int .i64 (k + n)) ∧ Own B w' v (marks k n) ∧ w.grownBy w' v.ownBlock

set_option maxHeartbeats 400000 in
theorem markIntS_any (B : Nat) (v : Value) (l : List Int) (k : Int) (w : World) (h : Own B w v l) (hk0 : 0 ≤ k) (hk1 : k ≤ 1000000000000) (hl : l.length ≤ 1000000000) :
    Calls Try.prog 16 #[v, .int .i64 k] w (Marked B w v k l.length) := by
  obtain ⟨n, hn⟩ : ∃ n, n = l.length := ⟨_, rfl⟩
  rw [← hn] at hl ⊢
  rcases h.shape with ⟨rfl, rfl⟩ | ⟨g, c, rfl, hBg, hgw, hlc, hcm⟩
  · obtain rfl : n = 0 := by simpa using hn
    clear hn
    go_enter Try.func16, Try.ntmps16
    go_wp2
    refine wp_loop_rounds 1 ?_; rw [rounds_succ]
    go_wp2
    go_ret
    exact ⟨by simp, by simpa [marks] using Own.nil B w, World.grownBy.refl _ _⟩
  · rw [← hn] at hlc ⊢
    rw [← hn] at h
    have HN := Lib.hid hn; clear hn
    unfold maxLen at hcm
    go_enter Try.func16, Try.ntmps16
    go_wp2
    go_loopw [1, 5] (fun m i wr => ∃ j : Nat, j ≤ n ∧ i = .int .i64 j ∧ m = .int .i64 (k + j) ∧ Own B wr (.slice (some ⟨g, 0, none⟩) n c) ((marks k n).take j ++ l.drop j) ∧ w.grownBy wr (some g)) (fun _ i _ => n - (intOf i).toNat)
    case atStart => exact ⟨0, by omega, rfl, by simp, by simpa using h, World.grownBy.refl _ _⟩
    case round =>
      obtain ⟨j, hj, rfl, rfl, hown, hgr⟩ := hrel
      clear h
      by_cases hlt : j < n
      · have hlen : ((marks k n).take j ++ l.drop j).length = n := by simp [marks_length, HN.out]; have := HN.out; omega
        have hdst := hown.cellAt j (by omega)
        have hfr := hown.frozenAt j
        have hnew := hown.stored j (k + j)
        have e : ((marks k n).take j ++ l.drop j).set j (k + j) = (marks k n).take (j + 1) ++ l.drop (j + 1) := by
          have hlj : j < l.length := by rw [← HN.out]; exact hlt
          have h1 : ((marks k n).take j).length = j := by rw [List.length_take, marks_length]; omega
          rw [List.set_append_right _ _ (by omega), h1, Nat.sub_self, List.drop_eq_getElem_cons hlj, List.set_cons_zero,
            List.take_succ_eq_append_getElem (by rw [marks_length]; exact hlt), List.append_assoc]
          congr 1
          have := marks_get k n j hlt
          simp [marks]
        rw [e] at hnew
        have hg2 : w.grownBy (wr.setCell ⟨g, j, none⟩ (.int .i64 (k + j))) (some g) :=
          ⟨hgr.os, hgr.tape, hgr.output, by simpa using hgr.size, fun i hi hne => (heap_setCell_other wr ⟨g, j, none⟩ i _ (fun e => hne (by simp [e]))).trans (hgr.block i hi hne)⟩
        have HW := Lib.hid hnew; clear hnew
        have HG := Lib.hid hg2; clear hg2 hown hgr e hlen
        go_wp2
        go_roundw
        case rel => exact ⟨j + 1, by omega, by go_num, by go_num, HW.out, HG.out⟩
        case measure => simp [intOf]; omega
      · obtain rfl : j = n := by omega
        go_wp2
        go_ret
        refine ⟨rfl, ?_, hgr⟩
        have e1 : l.drop j = [] := by rw [HN.out]; simp
        have e2 : (marks k j).take j = marks k j := by rw [List.take_of_length_le (by rw [marks_length]; omega)]
        rw [e1, e2, List.append_nil] at hown
        exact hown

def Held (w : World) (k : Int) (n : Nat) (e : Ending) (w' : World) : Prop := e = .returned (.int .i64 (k + n)) ∧ w = w'

set_option maxHeartbeats 400000 in
theorem heldIntS_any (v : Value) (k : Int) (n : Nat) (w : World) (h : Rd w v (marks k n)) (hk0 : 0 ≤ k) (hk1 : k ≤ 1000000000000) (hl : n ≤ 1000000000) :
    Calls Try.prog 52 #[v, .int .i64 k] w (Held w k n) := by
  obtain ⟨a1, c1, rfl, hlc1, hcm1, _, hrd1⟩ := h
  rw [marks_length] at *
  unfold maxLen at hcm1
  have HR1 := Lib.hid hrd1; clear hrd1
  go_enter Try.func52, Try.ntmps52
  go_wp2
  go_loop [1, 5] (fun m i => ∃ j : Nat, j ≤ n ∧ i = .int .i64 j ∧ m = .int .i64 (k + j)) (fun _ i => n - (intOf i).toNat)
  case atStart => exact ⟨0, by omega, rfl, by simp⟩
  case round =>
    obtain ⟨j, hj, rfl, rfl⟩ := hrel
    by_cases hlt : j < n
    · rcases HR1.out with h0 | ⟨b1, off1, rfl, hcell1⟩
      · exfalso; have := congrArg List.length h0; rw [marks_length] at this; simp at this; omega
      have hc1 := hcell1 j hlt
      rw [marks_get k n j hlt] at hc1
      clear hcell1
      go_wp2
      go_round
      case rel => exact ⟨j + 1, by omega, by go_num, by go_num⟩
      case measure => simp [intOf]; omega
    · obtain rfl : j = n := by omega
      go_wp2
      go_ret
      exact ⟨rfl, rfl⟩

/-! ### the same in one form, for the laws -/
def Gives (w : World) (l : List Int) (ok : Bool) (e : Ending) (w' : World) : Prop := ∃ v, e = .returned (.tuple #[v, .bool ok]) ∧ Own w.heap.size w' v l ∧ Below w.heap.size w w'
def GivesN (w : World) (n : Int) (ok : Bool) (e : Ending) (w' : World) : Prop := e = .returned (.tuple #[.int .i64 n, .bool ok]) ∧ Below w.heap.size w w'
def GivesT (w : World) (s : ByteArray) (ok : Bool) (e : Ending) (w' : World) : Prop := e = .returned (.tuple #[.string s, .bool ok]) ∧ Below w.heap.size w w'
def GivesB (w : World) (ok : Bool) (e : Ending) (w' : World) : Prop := e = .returned (.bool ok) ∧ Below w.heap.size w w'
def GivesD (w : World) (x ok : Bool) (e : Ending) (w' : World) : Prop := e = .returned (.tuple #[.bool x, .bool ok]) ∧ Below w.heap.size w w'
def Good (w : World) (e : Ending) (w' : World) : Prop := e = .returned (.bool true) ∧ Below w.heap.size w w'
def Made (w : World) (l : List Int) (e : Ending) (w' : World) : Prop := ∃ v', e = .returned v' ∧ Own w.heap.size w' v' l ∧ Below w.heap.size w w'

theorem toIntS_ok (v : Value) (l : List Int) (w : World) (h : Rd w v l) (hl : l.length ≤ 1048576) : Calls Try.prog 12 #[v] w (Made w l) := toIntS_any v l w h hl
theorem eqIntS_ok (v1 v2 : Value) (l : List Int) (w : World) (h1 : Rd w v1 l) (h2 : Rd w v2 l) : Calls Try.prog 15 #[v1, v2] w (Good w) :=
  (eqIntS_same v1 v2 l w h1 h2).mono fun e w' ⟨he, q, hq⟩ => ⟨he, by rw [hq]; exact below_drewN (Below.refl _ _) q⟩
def HeldOk (w : World) (k : Int) (n : Nat) (e : Ending) (w' : World) : Prop := e = .returned (.int .i64 (k + n)) ∧ Below w.heap.size w w'
theorem heldIntS_ok (v : Value) (k : Int) (n : Nat) (w : World) (h : Rd w v (marks k n)) (hk0 : 0 ≤ k) (hk1 : k ≤ 1000000000000) (hl : n ≤ 1000000000) : Calls Try.prog 52 #[v, .int .i64 k] w (HeldOk w k n) :=
  (heldIntS_any v k n w h hk0 hk1 hl).mono fun e w' ⟨he, hq⟩ => ⟨he, by rw [hq]; exact Below.refl _ _⟩

/-- where the block of an owned slice lies -/
def In (v : Value) (lo hi : Nat) : Prop := ∀ k, v.ownBlock = some k → lo ≤ k ∧ k < hi
theorem Own.inn {B : Nat} {w : World} {v : Value} {l : List Int} (h : Own B w v l) : In v B w.heap.size := h.lt
theorem In.apart {u v : Value} {a b c d : Nat} (hu : In u a b) (hv : In v c d) (h : b ≤ c ∨ d ≤ a) : ∀ k, u.ownBlock = some k → v.ownBlock ≠ some k := by
  intro k h1 h2
  have := hu k h1
  have := hv k h2
  omega
theorem Below.step {w w1 w2 : World} (h : Below w.heap.size w w1) (hb : Below w1.heap.size w1 w2) : Below w.heap.size w w2 := h.trans (hb.mono h.size)
theorem Below.mark {w w1 w2 : World} {v : Value} {B hi : Nat} (h : Below w.heap.size w w1) (hg : w1.grownBy w2 v.ownBlock) (hv : In v B hi) (hB : w.heap.size ≤ B) : Below w.heap.size w w2 :=
  h.grown hg h.size fun k hk => Nat.le_trans hB (hv k hk).1

end Go.Proofs.Yteeoepbbocdchaa
