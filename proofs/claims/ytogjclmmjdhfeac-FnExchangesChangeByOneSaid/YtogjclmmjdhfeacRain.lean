/- Rainbows: the model's list and the program's struct. -/
import Derived.Test.YtogjclmmjdhfeacJoin
import Derived.Test.YtogjclmmjdhfeacRead
import Derived.Test.YtogjclmmjdhfeacOwn
namespace Go.Proofs.Ytogjclmmjdhfeac
open Go.RowKit
set_option linter.unusedSimpArgs false
set_option linter.unusedVariables false

/-- the numbers downward, the first k of them -/
def down (n k : Nat) : List Int := (List.range k).map fun (i : Nat) => 2 * (n : Int) - 1 - (i : Int)
def rainbow (n : Nat) : List Int := down n (2 * n)
theorem down_snoc (n k : Nat) : down n (k + 1) = down n k ++ [2 * (n : Int) - 1 - (k : Int)] := by
  unfold down
  rw [List.range_succ, List.map_append]; rfl

set_option maxHeartbeats 1000000 in
theorem ahRainbow_any (n : Nat) (hn : n ≤ 6) (w : World) : Calls Try.prog 85 #[.int .i64 n] w (Made w (rainbow n)) := by
  go_enter Try.func85, Try.ntmps85
  go_wp2
  go_loopw [3, 4] (fun o i wr => ∃ k : Nat, k ≤ 2 * n ∧ i = .int .i64 (2 * (n : Int) - 1 - (k : Int)) ∧ Own w.heap.size wr o (down n k) ∧ Below w.heap.size w wr) (fun _ i _ => (intOf i + 1).toNat)
  case atStart => exact ⟨0, by omega, by go_num, Own.nil _ _, Below.refl _ _⟩
  case round =>
    obtain ⟨k, hk, rfl, hown, hbel⟩ := hrel
    have hsz := hbel.size
    by_cases hlt : k < 2 * n
    · have hsn := Lib.hid (down_snoc n k)
      have hlen : (down n k).length = k := by simp [down]
      have HL := Lib.hid hlen; clear hlen
      go_wp2_with (at_builtin; refine wp_append _ rfl _ _ rfl w.heap.size _ _ (down n k) [2 * (n : Int) - 1 - (k : Int)] rfl rfl (Own.below hown (Below.alloc1 _ _)) (Own.rd (Own.lit1 _ _ _ (Nat.le_refl _))) (by rw [HL.out]; simp; omega) (by simp; omega) ?_; intro v' w1 hown1 hgr hbel1; rw [← hsn.out] at hown1; have hbel2 := (hbel.alloc hsz _).trans hbel1; clear hown hgr hbel1 hbel)
      go_roundw
      case rel => exact ⟨k + 1, by omega, by go_num, hown1, hbel2⟩
      case measure => simp [intOf]; omega
    · obtain rfl : k = 2 * n := by omega
      go_wp2
      go_ret
      exact ⟨_, rfl, hown, hbel⟩

def rainJ (n : Nat) : Nat → List Int
  | 0 => List.replicate (2 * n) 0
  | k + 1 => ((rainJ n k).set k (2 * (n : Int) - 1 - (k : Int))).set (2 * n - 1 - k) (k : Int)

theorem rainJ_length (n : Nat) : ∀ k, (rainJ n k).length = 2 * n
  | 0 => by simp [rainJ]
  | k + 1 => by simp [rainJ, rainJ_length n k]

theorem rainJ_all (n : Nat) (hn : n ≤ 6) : rainJ n n = rainbow n := by
  have : n = 0 ∨ n = 1 ∨ n = 2 ∨ n = 3 ∨ n = 4 ∨ n = 5 ∨ n = 6 := by omega
  rcases this with rfl | rfl | rfl | rfl | rfl | rfl | rfl <;> rfl

theorem rainbow_len (n : Nat) : (rainbow n).length = 2 * n := by simp [rainbow, down]
theorem rainbow_le (n : Nat) (h : n ≤ 6) : (rainbow n).length ≤ 12 := by rw [rainbow_len]; omega

/-- a system by value -/
def SysRet (w : World) (l : List Int) (e : Ending) (w' : World) : Prop := e = .returned (.agg (sysC l)) ∧ Below w.heap.size w w'

theorem rain_blank (w : World) (n : Nat) (hn : n ≤ 6) (Z : Array Value) : SysIn ((w.alloc (.cells Z 56)).alloc (.cells #[.int .i64 0, .int .i64 0, .int .i64 0, .int .i64 0, .int .i64 0, .int .i64 0, .int .i64 0, .int .i64 0, .int .i64 0, .int .i64 0, .int .i64 0, .int .i64 0, .int .i64 (2 * (n : Int))] 56)) (w.heap.size + 1) (List.replicate (2 * n) 0) := by
  have := SysIn.blank (w.alloc (.cells Z 56)) (2 * n) (2 * (n : Int)) (by omega) (by omega)
  rw [World.size_alloc] at this
  exact this
theorem rain_zero (w : World) (n : Nat) : SysIn ((w.alloc (.cells #[.int .i64 0, .int .i64 0, .int .i64 0, .int .i64 0, .int .i64 0, .int .i64 0, .int .i64 0, .int .i64 0, .int .i64 0, .int .i64 0, .int .i64 0, .int .i64 0, .int .i64 0] 56)).alloc (.cells #[.int .i64 0, .int .i64 0, .int .i64 0, .int .i64 0, .int .i64 0, .int .i64 0, .int .i64 0, .int .i64 0, .int .i64 0, .int .i64 0, .int .i64 0, .int .i64 0, .int .i64 (2 * (n : Int))] 56)) w.heap.size [] :=
  SysIn.old (show SysIn (w.alloc (.cells (sysC []) 56)) w.heap.size [] from heap_alloc_new w _) (2 * (n : Int))

end Go.Proofs.Ytogjclmmjdhfeac
