/- Lists with a number added to each; copies. -/
import Derived.Test.YtnkkgbecdckigacSlice
import Derived.Test.YtnkkgbecdckigacGood
namespace Go.Proofs.Ytnkkgbecdckigac
open Go.RowKit
set_option linter.unusedSimpArgs false
set_option linter.unusedVariables false

def shiftL (l : List Int) (b : Int) : List Int := l.map (· + b)
theorem shiftL_length (l : List Int) (b : Int) : (shiftL l b).length = l.length := by simp [shiftL]
theorem shift_snoc (l : List Int) (b : Int) (k : Nat) (h : k < l.length) : shiftL (l.take (k + 1)) b = shiftL (l.take k) b ++ [l.getD k 0 + b] := by
  unfold shiftL
  rw [List.take_succ_eq_append_getElem h, List.map_append]
  simp [List.getD, h]

/-- what an empty slice that is not nil owns -/
theorem Own.lit0 (B : Nat) (w : World) (hB : B ≤ w.heap.size) : Own B (w.alloc (.cells #[] 3)) (.slice (some ⟨w.heap.size, 0, none⟩) 0 0) [] :=
  World.ownsRow_lit w #[] 0 hB (by unfold maxLen; omega) rfl

set_option maxHeartbeats 1000000 in
theorem l1Own_any (v : Value) (l : List Int) (w : World) (h : Rd w v l) (hl : l.length ≤ 1000000) : Calls Try.prog 68 #[v] w (Made w l) := by
  have HR := Lib.hid h; have HL := Lib.hid hl; clear h hl
  go_enter Try.func68, Try.ntmps68
  go_wp2_with (at_builtin; refine wp_append _ rfl _ _ rfl w.heap.size _ v [] l rfl rfl (Own.lit0 _ _ (Nat.le_refl _)) (Rd.below HR.out (Below.alloc1 _ _)) (by have := HL.out; simp; omega) (by simp) ?_; intro v' w1 hown1 hgr hbel1)
  go_ret
  exact ⟨_, rfl, hown1, (Below.alloc1 _ _).trans hbel1⟩

end Go.Proofs.Ytnkkgbecdckigac
