/- Points moved: shift, reflection, draw. -/
import Derived.Test.YtaeeopdiodaiaabJoin
import Derived.Test.YtaeeopdiodaiaabRead
import Derived.Test.YtaeeopdiodaiaabSlice
namespace Go.Proofs.Ytaeeopdiodaiaab
open Go.RowKit
set_option linter.unusedSimpArgs false
set_option linter.unusedVariables false

def IntOut (w : World) (x : Int) (e : Ending) (w' : World) : Prop := e = .returned (.int .i64 x) ∧ Below w.heap.size w w'

/-- where a shift moves a point -/
def shiftTo (by_ size i : Int) : Int := ((i + by_).tmod size + size).tmod size

theorem shiftTo_in (b n i : Int) (hn : 0 < n) : 0 ≤ shiftTo b n i ∧ shiftTo b n i < n := by
  unfold shiftTo
  have h1 := Int.lt_tmod_of_pos (i + b) hn
  have h3 : 0 ≤ (i + b).tmod n + n := by omega
  rw [Int.tmod_eq_emod_of_nonneg h3]
  exact ⟨Int.emod_nonneg _ (by omega), Int.emod_lt_of_pos _ hn⟩


theorem refl_place (n i : Int) (w : World) (hn0 : 0 < n) (hn1 : n ≤ 12) (hi0 : 0 ≤ i) (hi1 : i ≤ 100) :
    Calls Try.prog 80 #[.agg #[.int .i64 n], .int .i64 i] w (IntOut w (n - 1 - i)) := by
  go_enter Try.func80, Try.ntmps80
  go_wp2
  go_ret
  exact ⟨rfl, Below.alloc1 _ _⟩

theorem drawn_below {w w2 w3 : World} {A : Obj} (C : Below w.heap.size w w2) (hg : (w2.alloc A).grownBy w3 (some w2.heap.size)) : Below w.heap.size w w3 :=
  (C.alloc C.size A).grown hg (by have := C.size; simp; omega) (by intro k hk; simp at hk; have := C.size; omega)

/-- what draw leaves of a list behind k points of the other one -/
def drawL (f : Int → Int) (l o : List Int) : Nat → List Int
  | 0 => l
  | k + 1 => (drawL f l o k).set (f (k : Int)).toNat (f (o.getD k 0))
theorem drawL_length (f : Int → Int) (l o : List Int) : ∀ k, (drawL f l o k).length = l.length
  | 0 => rfl
  | k + 1 => by rw [drawL, List.length_set, drawL_length f l o k]

theorem next_grown {w w0 w1 w2 : World} {b j : Nat} {v : Value} (h : w.grownBy w0 (some b)) (h1 : Below w0.heap.size w0 w1) (h2 : Below w1.heap.size w1 w2) : w.grownBy (w2.setCell ⟨b, j, none⟩ v) (some b) := by
  have h3 := Below.step h1 h2
  refine ⟨h3.os.trans h.os, h3.tape.trans h.tape, h3.output.trans h.output, by have := h3.size; have := h.size; simp; omega, fun k hk hne => ?_⟩
  exact (heap_setCell_other w2 ⟨b, j, none⟩ k v (fun e => hne (by simp [e]))).trans ((h3.block k (Nat.lt_of_lt_of_le hk h.size)).trans (h.block k hk hne))
theorem next_box {w2 : World} {s b j : Nat} {v : Value} {o : List Int} (h : SysIn w2 s o) (hb : b < s) : SysIn (w2.setCell ⟨b, j, none⟩ v) s o :=
  (heap_setCell_other w2 ⟨b, j, none⟩ s v (by simp; omega)).trans h

end Go.Proofs.Ytaeeopdiodaiaab
