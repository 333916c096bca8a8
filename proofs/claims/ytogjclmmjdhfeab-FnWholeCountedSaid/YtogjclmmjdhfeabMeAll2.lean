/- meAll, CountMeanders. -/
import Derived.Test.YtogjclmmjdhfeabMeAll
namespace Go.Proofs.Ytogjclmmjdhfeab
open Go.RowKit
set_option linter.unusedSimpArgs false
set_option linter.unusedVariables false

set_option maxHeartbeats 1000000 in
theorem l1Own_run (v : Value) (l : List Int) (w : World) (h : Rd w v l) (hl : l.length ≤ 1000000) : Calls Try.prog 110 #[v] w (Made w l) := by
  have HR := Lib.hid h; have HL := Lib.hid hl; clear h hl
  go_enter Try.func110, Try.ntmps110
  go_wp2_with (at_builtin; refine wp_append _ rfl _ _ rfl w.heap.size _ v [] l rfl rfl (Own.lit0 _ _ (Nat.le_refl _)) (Rd.below HR.out (Below.alloc1 _ _)) (by have := HL.out; simp; omega) (by simp) ?_; intro v' w1 hown1 hgr hbel1)
  go_ret
  exact ⟨_, rfl, hown1, (Below.alloc1 _ _).trans hbel1⟩


def ok_CountMeanders (x : Int) : Bool := inB x 0 4
def res_CountMeanders (x : Int) : Int := if inB x 0 4 then ((mcJ x.toNat (allL x.toNat)).length : Int) else 0


end Go.Proofs.Ytogjclmmjdhfeab
