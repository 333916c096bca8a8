/- JoinSystems. -/
import Derived.Test.YtaeeopdiodaiaaaShift
import Derived.Test.YtaeeopdiodaiaaaDraw
namespace Go.Proofs.Ytaeeopdiodaiaaa
open Go.RowKit
set_option linter.unusedSimpArgs false
set_option linter.unusedVariables false

def joinL (a b : List Int) : List Int := a ++ shiftL b (a.length : Int)
def ok_JoinSystems (a b : List Int) : Bool := goodB a && goodB b && decide (a.length + b.length ≤ 12)
def res_JoinSystems (a b : List Int) : List Int := if ok_JoinSystems a b then joinL a b else []
theorem len_JoinSystems (a b : List Int) : (res_JoinSystems a b).length ≤ 1000000 := by
  unfold res_JoinSystems
  split
  · next h => simp [ok_JoinSystems] at h; simp [joinL, shiftL_length]; omega
  · simp

theorem shiftTo_up (a n k : Int) (h0 : 0 ≤ k) (h1 : 0 ≤ a) (h2 : k + a < n) : shiftTo a n k = k + a := by
  unfold shiftTo
  have e1 : (k + a).tmod n = k + a := Int.tmod_eq_of_lt (by omega) h2
  rw [e1, Int.tmod_eq_emod_of_nonneg (by omega), Int.add_emod_right, Int.emod_eq_of_lt (by omega) h2]

theorem join_draw (a b : List Int) (hr : ∀ k, k < b.length → 0 ≤ b.getD k 0 ∧ b.getD k 0 < b.length) : ∀ m, m ≤ b.length →
    drawL (shiftTo (a.length : Int) ((a.length : Int) + (b.length : Int))) (a ++ List.replicate b.length 0) b m = a ++ (shiftL (b.take m) (a.length : Int) ++ List.replicate (b.length - m) 0)
  | 0, _ => by simp [drawL, shiftL]
  | m + 1, h => by
    have h2 := hr m (by omega)
    rw [drawL, join_draw a b hr m (by omega), shiftTo_up _ _ _ (by omega) (by omega) (by omega), shiftTo_up _ _ _ h2.1 (by omega) (by omega), shift_snoc b _ m (by omega)]
    have e : ((m : Int) + (a.length : Int)).toNat = a.length + m := by omega
    have e2 : List.replicate (b.length - m) (0 : Int) = 0 :: List.replicate (b.length - (m + 1)) 0 := by
      rw [show b.length - m = (b.length - (m + 1)) + 1 by omega, List.replicate_succ]
    have hlen : (shiftL (b.take m) (a.length : Int)).length = m := by rw [shiftL_length, List.length_take]; omega
    rw [e, List.set_append_right _ _ (by omega), Nat.add_sub_cancel_left, e2, List.set_append_right _ _ (by omega), hlen, Nat.sub_self, List.set_cons_zero]
    simp

theorem join_drawn (a b : List Int) (hg : goodB b = true) : drawL (shiftTo (a.length : Int) ((a.length : Int) + (b.length : Int))) (a ++ List.replicate b.length 0) b b.length = joinL a b := by
  rw [join_draw a b (fun k hk => ⟨((good_facts hg).2.2.1 k hk).1, ((good_facts hg).2.2.1 k hk).2.1⟩) b.length (Nat.le_refl _)]
  simp [joinL]

theorem SysIn.resize {w : World} {b : Nat} {l : List Int} (h : SysIn w b l) (m : Nat) (x : Int) (hx : x = (m : Int)) (hm : m ≤ 12) (hl : l.length ≤ m) : SysIn (w.setCell ⟨b, 12, none⟩ (.int .i64 x)) b (l ++ List.replicate (m - l.length) 0) := by
  subst hx
  have := heap_setCell_same w b 12 _ _ (.int .i64 (m : Int)) h
  unfold SysIn
  rw [this]
  have e : sysL (l ++ List.replicate (m - l.length) 0) = (sysL l).set 12 (.int .i64 (m : Int)) := by
    unfold sysL
    have e1 : (ints (l ++ List.replicate (12 - l.length) 0)).length = 12 := by rw [ints_length]; simp; omega
    rw [List.set_append_right _ _ (by omega), e1, Nat.sub_self, List.set_cons_zero, List.append_assoc]
    have e2 : (l ++ List.replicate (m - l.length) (0 : Int)).length = m := by simp; omega
    rw [e2, List.replicate_append_replicate, show m - l.length + (12 - m) = 12 - l.length by omega]
  unfold sysC
  rw [e]
  simp

theorem join_fits (a b : List Int) : ∀ k : Nat, k < b.length → 0 ≤ shiftTo (a.length : Int) ((a.length : Int) + (b.length : Int)) (k : Int) ∧ shiftTo (a.length : Int) ((a.length : Int) + (b.length : Int)) (k : Int) < (a ++ List.replicate b.length (0 : Int)).length := by
  intro k hk
  have := shiftTo_in (a.length : Int) ((a.length : Int) + (b.length : Int)) (k : Int) (by omega)
  simp only [List.length_append, List.length_replicate]
  omega
theorem join_place (n m : Nat) (h12 : n + m ≤ 12) (h0 : 0 < m) : ∀ (i : Int) (w : World), 0 ≤ i → i < 12 → Calls Try.prog 78 #[.agg #[.int .i64 (n : Int), .int .i64 ((n : Int) + (m : Int))], .int .i64 i] w (IntOut w (shiftTo (n : Int) ((n : Int) + (m : Int)) i)) :=
  fun i w h1 h2 => shift_place (n : Int) ((n : Int) + (m : Int)) i w (by omega) (by omega) (by omega) (by omega) h1 (by omega)

end Go.Proofs.Ytaeeopdiodaiaaa
