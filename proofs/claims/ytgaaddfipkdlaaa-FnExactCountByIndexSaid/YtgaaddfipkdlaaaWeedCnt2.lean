/- CountByWinding: the program. -/
import Derived.Test.YtgaaddfipkdlaaaWeedCnt
namespace Go.Proofs.Ytgaaddfipkdlaaa
open Go.RowKit
set_option linter.unusedSimpArgs false
set_option linter.unusedVariables false

theorem results_three (F : Func) (hr : F.results = #[.tmp 2, .tmp 3, .tmp 4]) (tmps : Array Value) (w : World) (x y z : Value) (h2 : tmps.getD 2 undef = x) (h3 : tmps.getD 3 undef = y) (h4 : tmps.getD 4 undef = z) :
    (results F tmps).run Try.prog w = .ok (.tuple #[x, y, z]) w := by
  have h2' : tmps[2]?.getD undef = x := by simpa using h2
  have h3' : tmps[3]?.getD undef = y := by simpa using h3
  have h4' : tmps[4]?.getD undef = z := by simpa using h4
  simp [results, hr, h2', h3', h4']
def GivesC (w : World) (r s : Int) (ok : Bool) (e : Ending) (w' : World) : Prop := e = .returned (.tuple #[.int .i64 r, .int .i64 s, .bool ok]) ∧ Below w.heap.size w w'
end Go.Proofs.Ytgaaddfipkdlaaa
