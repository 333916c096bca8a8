/- WindStep. -/
import Derived.Test.YtgaaddfipkdlaaaWeedStepI
namespace Go.Proofs.Ytgaaddfipkdlaaa
open Go.RowKit
set_option linter.unusedSimpArgs false
set_option linter.unusedVariables false


/-! WindStep -/
def GivesX (w : World) (t b : List Int) (s : ByteArray) (ok : Bool) (e : Ending) (w' : World) : Prop := ∃ v1 v2, e = .returned (.tuple #[.agg #[v1, v2], .string s, .bool ok]) ∧ Own w.heap.size w' v1 t ∧ Own w.heap.size w' v2 b ∧ ApartV v1 v2 ∧ Below w.heap.size w w'
def ok_WindStep (t b : List Int) : Bool := weedB t b && decide (0 < t.length)
def res1_WindStep (t b : List Int) : List Int := if ok_WindStep t b then stepT t b else []
def res2_WindStep (t b : List Int) : List Int := if ok_WindStep t b then stepB t b else []
def res3_WindStep (t b : List Int) : ByteArray := if ok_WindStep t b then letB (stepN t b) else ByteArray.empty
theorem len_WindStep (t b : List Int) : (res1_WindStep t b).length ≤ 1000000 ∧ (res2_WindStep t b).length ≤ 1000000 := by
  unfold res1_WindStep res2_WindStep
  split
  · next h =>
    simp only [ok_WindStep, Bool.and_eq_true, decide_eq_true_iff] at h
    have := weed_lens (step_weed h.1 h.2).1; omega
  · simp
theorem results_x (F : Func) (hr : F.results = #[.cell 2 29, .tmp 3, .tmp 4]) (tmps : Array Value) (w : World) (g : Nat) (v1 v2 : Value) (s : ByteArray) (ok : Bool) (hg : Box2 29 w g v1 v2) (h2 : tmps.getD 2 undef = .pointer (some ⟨g, 0, none⟩)) (h3 : tmps.getD 3 undef = .string s) (h4 : tmps.getD 4 undef = .bool ok) :
    (results F tmps).run Try.prog w = .ok (.tuple #[.agg #[v1, v2], .string s, .bool ok]) w := by
  have h2' : tmps[2]?.getD undef = .pointer (some ⟨g, 0, none⟩) := by simpa using h2
  have h3' : tmps[3]?.getD undef = .string s := by simpa using h3
  have h4' : tmps[4]?.getD undef = .bool ok := by simpa using h4
  simp [results, hr, h2', h3', h4', asAddr, run_loadSea w g v1 v2 hg]
end Go.Proofs.Ytgaaddfipkdlaaa
