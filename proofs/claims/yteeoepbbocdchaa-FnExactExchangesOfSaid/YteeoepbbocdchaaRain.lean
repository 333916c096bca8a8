/- Rainbows: the model's list and the program's struct. -/
import Derived.Test.YteeoepbbocdchaaJoin
import Derived.Test.YteeoepbbocdchaaRead
import Derived.Test.YteeoepbbocdchaaSlice
namespace Go.Proofs.Yteeoepbbocdchaa
open Go.RowKit
set_option linter.unusedSimpArgs false
set_option linter.unusedVariables false

/-- the numbers downward, the first k of them -/
def down (n k : Nat) : List Int := (List.range k).map fun (i : Nat) => 2 * (n : Int) - 1 - (i : Int)
def rainbow (n : Nat) : List Int := down n (2 * n)
theorem down_snoc (n k : Nat) : down n (k + 1) = down n k ++ [2 * (n : Int) - 1 - (k : Int)] := by
  unfold down
  rw [List.range_succ, List.map_append]; rfl

def rainJ (n : Nat) : Nat → List Int
  | 0 => List.replicate (2 * n) 0
  | k + 1 => ((rainJ n k).set k (2 * (n : Int) - 1 - (k : Int))).set (2 * n - 1 - k) (k : Int)

theorem rainJ_length (n : Nat) : ∀ k, (rainJ n k).length = 2 * n
  | 0 => by simp [rainJ]
  | k + 1 => by simp [rainJ, rainJ_length n k]

theorem rainJ_all (n : Nat) (hn : n ≤ 6) : rainJ n n = rainbow n := by
  have : n = 0 ∨ n = 1 ∨ n = 2 ∨ n = 3 ∨ n = 4 ∨ n = 5 ∨ n = 6 := by omega
  rcases this with rfl | rfl | rfl | rfl | rfl | rfl | rfl <;> rfl

theorem rainbow_len (n : Nat) : (rainbow n).length = 2 * n := by simp [rainbow, down]
theorem rainbow_le (n : Nat) (h : n ≤ 6) : (rainbow n).length ≤ 12 := by rw [rainbow_len]; omega

/-- a system by value -/
def SysRet (w : World) (l : List Int) (e : Ending) (w' : World) : Prop := e = .returned (.agg (sysC l)) ∧ Below w.heap.size w w'

theorem rain_blank (w : World) (n : Nat) (hn : n ≤ 6) (Z : Array Value) : SysIn ((w.alloc (.cells Z 59)).alloc (.cells #[.int .i64 0, .int .i64 0, .int .i64 0, .int .i64 0, .int .i64 0, .int .i64 0, .int .i64 0, .int .i64 0, .int .i64 0, .int .i64 0, .int .i64 0, .int .i64 0, .int .i64 (2 * (n : Int))] 59)) (w.heap.size + 1) (List.replicate (2 * n) 0) := by
  have := SysIn.blank (w.alloc (.cells Z 59)) (2 * n) (2 * (n : Int)) (by omega) (by omega)
  rw [World.size_alloc] at this
  exact this
theorem rain_zero (w : World) (n : Nat) : SysIn ((w.alloc (.cells #[.int .i64 0, .int .i64 0, .int .i64 0, .int .i64 0, .int .i64 0, .int .i64 0, .int .i64 0, .int .i64 0, .int .i64 0, .int .i64 0, .int .i64 0, .int .i64 0, .int .i64 0] 59)).alloc (.cells #[.int .i64 0, .int .i64 0, .int .i64 0, .int .i64 0, .int .i64 0, .int .i64 0, .int .i64 0, .int .i64 0, .int .i64 0, .int .i64 0, .int .i64 0, .int .i64 0, .int .i64 (2 * (n : Int))] 59)) w.heap.size [] :=
  SysIn.old (show SysIn (w.alloc (.cells (sysC []) 59)) w.heap.size [] from heap_alloc_new w _) (2 * (n : Int))

end Go.Proofs.Yteeoepbbocdchaa
