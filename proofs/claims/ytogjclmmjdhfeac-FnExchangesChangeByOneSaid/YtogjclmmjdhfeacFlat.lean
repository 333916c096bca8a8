/- Flat systems. -/
import Derived.Test.YtogjclmmjdhfeacJoin
import Derived.Test.YtogjclmmjdhfeacRead
import Derived.Test.YtogjclmmjdhfeacOwn
namespace Go.Proofs.Ytogjclmmjdhfeac
open Go.RowKit
set_option linter.unusedSimpArgs false
set_option linter.unusedVariables false

/-- small arches, the first k of them -/
def flats : Nat → List Int
  | 0 => []
  | k + 1 => flats k ++ [2 * (k : Int) + 1, 2 * (k : Int)]
theorem flats_length : ∀ k, (flats k).length = 2 * k
  | 0 => rfl
  | k + 1 => by simp [flats, flats_length k]; omega
def res_FlatOf (x : Int) : List Int := if inB x 0 6 then flats x.toNat else []
def ok_FlatOf (x : Int) : Bool := inB x 0 6

theorem len_FlatOf (x : Int) : (res_FlatOf x).length ≤ 1000000 := by
  unfold res_FlatOf
  split
  · next h =>
    have := inB_iff.1 h
    rw [flats_length]; omega
  · simp

set_option maxHeartbeats 1000000 in
theorem ahFlat_upto (n : Nat) (hn : n ≤ 7) (w : World) : Calls Try.prog 84 #[.int .i64 n] w (Made w (flats n)) := by
  go_enter Try.func84, Try.ntmps84
  go_wp2
  go_loopw [3, 4] (fun o i wr => ∃ k : Nat, k ≤ n ∧ i = .int .i64 k ∧ Own w.heap.size wr o (flats k) ∧ Below w.heap.size w wr) (fun _ i _ => n - (intOf i).toNat)
  case atStart => exact ⟨0, by omega, by go_num, Own.nil _ _, Below.refl _ _⟩
  case round =>
    obtain ⟨k, hk, rfl, hown, hbel⟩ := hrel
    have hsz := hbel.size
    by_cases hlt : k < n
    · have HL := Lib.hid (flats_length k)
      go_wp2_with (at_builtin; refine wp_append _ rfl _ _ rfl w.heap.size _ _ (flats k) [2 * (k : Int) + 1, 2 * (k : Int)] rfl rfl (Own.below hown (Below.alloc1 _ _)) (Own.rd (Own.lit2 _ _ _ _ (Nat.le_refl _))) (by rw [HL.out]; simp; omega) (by simp; omega) ?_; intro v' w1 hown1 hgr hbel1; have hbel2 := (hbel.alloc hsz _).trans hbel1; clear hown hgr hbel1 hbel)
      go_roundw
      case rel => exact ⟨k + 1, by omega, by go_num, hown1, hbel2⟩
      case measure => simp [intOf]; omega
    · obtain rfl : k = n := by omega
      go_wp2
      go_ret
      exact ⟨_, rfl, hown, hbel⟩

theorem ahFlat_any (n : Nat) (hn : n ≤ 6) (w : World) : Calls Try.prog 84 #[.int .i64 n] w (Made w (flats n)) := ahFlat_upto n (by omega) w

def flatJ (n : Nat) : Nat → List Int
  | 0 => List.replicate (2 * n) 0
  | k + 1 => ((flatJ n k).set (2 * k) (2 * (k : Int) + 1)).set (2 * k + 1) (2 * (k : Int))

theorem flatJ_length (n : Nat) : ∀ k, (flatJ n k).length = 2 * n
  | 0 => by simp [flatJ]
  | k + 1 => by simp [flatJ, flatJ_length n k]

theorem flatJ_all (n : Nat) (hn : n ≤ 6) : flatJ n n = flats n := by
  have : n = 0 ∨ n = 1 ∨ n = 2 ∨ n = 3 ∨ n = 4 ∨ n = 5 ∨ n = 6 := by omega
  rcases this with rfl | rfl | rfl | rfl | rfl | rfl | rfl <;> rfl

end Go.Proofs.Ytogjclmmjdhfeac
