/-
  No cell of these rows narrows 'for every input' (looked for: loops, veiled, ifaces, maps, wideKeys, modest, calm, conditions, laid).
  DERIVED. THE GIVEN ROWS OF THIS SEAT. 7 by the template 'for every input the law returns true; each argument reads behind the call as it read before'; 0 by the template 'total and deterministic' (their statements: YtfcjgcbjiongpabTotals.lean).
  GIVEN WITH THE SEED: the statements are not yours to turn. If you find one false, say at which input.
  Laid BY PROGRAM, IN A SANDBOX (cutbox-rows.mjs): the forced cells as the released guide's own fill.sh prints them over the translation 9a0ea593b2099a0c… (all of the seat's roots in one cut). By AI agents, Wed Nov 11 2026. No macro, syntax, notation, axiom, sorry.
-/
import Derived.Test.YtfcjgcbjiongpabChecked
import GoSem.Claim
import GoSem.ClaimJoined
import GoSem.ClaimMapViews
import Derived.JoinedTies
import Derived.KernelRfl
namespace Go.Proofs.Ytfcjgcbjiongpab
/- THE CELL 'sum', in the pinned program and in every row, IS THE sha256 OF THE DUMP (.gsa) THAT YtfcjgcbjiongpabProg.lean LOADS. Nothing in Lean hashes anything: it is a label: what it is worth is what the hold of that sum in a sandbox is worth. -/
noncomputable def Try.pinned : Pinned := { name := "ytfcjgcbjiongpab", sum := "9a0ea593b2099a0c1d29caf2b0b8f0238ac6878dd75b9454467343062758b333", checked := Try.checked }
namespace Rows
def none {H : Type} : Left H := { results := [], args := [] }

/-- 'laws.FnExactExchangePath': WHATEVER THE INPUT: true; the input reads as it did. -/
def fnExactExchangePathSpec : ChangeSpec := { name := "fnExactExchangePath", fn := fun _ => fun
  | [d1, d2] => { results := [.lit (.bool true)], args := [d1, d2] }
  | _ => none }
def fnExactExchangePathRow : OpenClaim := { program := "ytfcjgcbjiongpab", sum := "9a0ea593b2099a0c1d29caf2b0b8f0238ac6878dd75b9454467343062758b333", func := "loop.example/g01126/laws.FnExactExchangePath", spec := "fnExactExchangePath", unfollowed := true, recurses := true, apart := false }
def FnExactExchangePathSaid : Prop := fnExactExchangePathRow.holds Try.pinned (OpenSpec.ofChange fnExactExchangePathSpec)

/-- ITS FALSE NEIGHBOUR: 'it returns false'. Refute it at one input. -/
def fnExactExchangePathWrong : ChangeSpec := { name := "fnExactExchangePath", fn := fun _ => fun
  | [d1, d2] => { results := [.lit (.bool false)], args := [d1, d2] }
  | _ => none }
def FnExactExchangePathWrongFalsely : Prop := fnExactExchangePathRow.holds Try.pinned (OpenSpec.ofChange fnExactExchangePathWrong)

/-- 'laws.FnExactCountShortest': WHATEVER THE INPUT: true; the input reads as it did. -/
def fnExactCountShortestSpec : ChangeSpec := { name := "fnExactCountShortest", fn := fun _ => fun
  | [d1, d2] => { results := [.lit (.bool true)], args := [d1, d2] }
  | _ => none }
def fnExactCountShortestRow : OpenClaim := { program := "ytfcjgcbjiongpab", sum := "9a0ea593b2099a0c1d29caf2b0b8f0238ac6878dd75b9454467343062758b333", func := "loop.example/g01126/laws.FnExactCountShortest", spec := "fnExactCountShortest", unfollowed := true, recurses := true, apart := false }
def FnExactCountShortestSaid : Prop := fnExactCountShortestRow.holds Try.pinned (OpenSpec.ofChange fnExactCountShortestSpec)

/-- ITS FALSE NEIGHBOUR: 'it returns false'. Refute it at one input. -/
def fnExactCountShortestWrong : ChangeSpec := { name := "fnExactCountShortest", fn := fun _ => fun
  | [d1, d2] => { results := [.lit (.bool false)], args := [d1, d2] }
  | _ => none }
def FnExactCountShortestWrongFalsely : Prop := fnExactCountShortestRow.holds Try.pinned (OpenSpec.ofChange fnExactCountShortestWrong)

/-- 'laws.FnExactBetweenSystems': WHATEVER THE INPUT: true; the input reads as it did. -/
def fnExactBetweenSystemsSpec : ChangeSpec := { name := "fnExactBetweenSystems", fn := fun _ => fun
  | [d1, d2] => { results := [.lit (.bool true)], args := [d1, d2] }
  | _ => none }
def fnExactBetweenSystemsRow : OpenClaim := { program := "ytfcjgcbjiongpab", sum := "9a0ea593b2099a0c1d29caf2b0b8f0238ac6878dd75b9454467343062758b333", func := "loop.example/g01126/laws.FnExactBetweenSystems", spec := "fnExactBetweenSystems", unfollowed := true, recurses := true, apart := false }
def FnExactBetweenSystemsSaid : Prop := fnExactBetweenSystemsRow.holds Try.pinned (OpenSpec.ofChange fnExactBetweenSystemsSpec)

/-- ITS FALSE NEIGHBOUR: 'it returns false'. Refute it at one input. -/
def fnExactBetweenSystemsWrong : ChangeSpec := { name := "fnExactBetweenSystems", fn := fun _ => fun
  | [d1, d2] => { results := [.lit (.bool false)], args := [d1, d2] }
  | _ => none }
def FnExactBetweenSystemsWrongFalsely : Prop := fnExactBetweenSystemsRow.holds Try.pinned (OpenSpec.ofChange fnExactBetweenSystemsWrong)

/-- 'laws.FnExactMergePath': WHATEVER THE INPUT: true; the input reads as it did. -/
def fnExactMergePathSpec : ChangeSpec := { name := "fnExactMergePath", fn := fun _ => fun
  | [d] => { results := [.lit (.bool true)], args := [d] }
  | _ => none }
def fnExactMergePathRow : OpenClaim := { program := "ytfcjgcbjiongpab", sum := "9a0ea593b2099a0c1d29caf2b0b8f0238ac6878dd75b9454467343062758b333", func := "loop.example/g01126/laws.FnExactMergePath", spec := "fnExactMergePath", unfollowed := true, recurses := true, apart := false }
def FnExactMergePathSaid : Prop := fnExactMergePathRow.holds Try.pinned (OpenSpec.ofChange fnExactMergePathSpec)

/-- ITS FALSE NEIGHBOUR: 'it returns false'. Refute it at one input. -/
def fnExactMergePathWrong : ChangeSpec := { name := "fnExactMergePath", fn := fun _ => fun
  | [d] => { results := [.lit (.bool false)], args := [d] }
  | _ => none }
def FnExactMergePathWrongFalsely : Prop := fnExactMergePathRow.holds Try.pinned (OpenSpec.ofChange fnExactMergePathWrong)

/-- 'laws.FnExactSplitPath': WHATEVER THE INPUT: true; the input reads as it did. -/
def fnExactSplitPathSpec : ChangeSpec := { name := "fnExactSplitPath", fn := fun _ => fun
  | [d] => { results := [.lit (.bool true)], args := [d] }
  | _ => none }
def fnExactSplitPathRow : OpenClaim := { program := "ytfcjgcbjiongpab", sum := "9a0ea593b2099a0c1d29caf2b0b8f0238ac6878dd75b9454467343062758b333", func := "loop.example/g01126/laws.FnExactSplitPath", spec := "fnExactSplitPath", unfollowed := true, recurses := true, apart := false }
def FnExactSplitPathSaid : Prop := fnExactSplitPathRow.holds Try.pinned (OpenSpec.ofChange fnExactSplitPathSpec)

/-- ITS FALSE NEIGHBOUR: 'it returns false'. Refute it at one input. -/
def fnExactSplitPathWrong : ChangeSpec := { name := "fnExactSplitPath", fn := fun _ => fun
  | [d] => { results := [.lit (.bool false)], args := [d] }
  | _ => none }
def FnExactSplitPathWrongFalsely : Prop := fnExactSplitPathRow.holds Try.pinned (OpenSpec.ofChange fnExactSplitPathWrong)

/-- 'laws.FnExactAllSemis': WHATEVER THE INPUT: true; the input reads as it did. -/
def fnExactAllSemisSpec : ChangeSpec := { name := "fnExactAllSemis", fn := fun _ => fun
  | [d] => { results := [.lit (.bool true)], args := [d] }
  | _ => none }
def fnExactAllSemisRow : OpenClaim := { program := "ytfcjgcbjiongpab", sum := "9a0ea593b2099a0c1d29caf2b0b8f0238ac6878dd75b9454467343062758b333", func := "loop.example/g01126/laws.FnExactAllSemis", spec := "fnExactAllSemis", unfollowed := true, recurses := true, apart := false }
def FnExactAllSemisSaid : Prop := fnExactAllSemisRow.holds Try.pinned (OpenSpec.ofChange fnExactAllSemisSpec)

/-- ITS FALSE NEIGHBOUR: 'it returns false'. Refute it at one input. -/
def fnExactAllSemisWrong : ChangeSpec := { name := "fnExactAllSemis", fn := fun _ => fun
  | [d] => { results := [.lit (.bool false)], args := [d] }
  | _ => none }
def FnExactAllSemisWrongFalsely : Prop := fnExactAllSemisRow.holds Try.pinned (OpenSpec.ofChange fnExactAllSemisWrong)

/-- 'laws.FnExactSpreadOfWindings': WHATEVER THE INPUT: true; the input reads as it did. -/
def fnExactSpreadOfWindingsSpec : ChangeSpec := { name := "fnExactSpreadOfWindings", fn := fun _ => fun
  | [d] => { results := [.lit (.bool true)], args := [d] }
  | _ => none }
def fnExactSpreadOfWindingsRow : OpenClaim := { program := "ytfcjgcbjiongpab", sum := "9a0ea593b2099a0c1d29caf2b0b8f0238ac6878dd75b9454467343062758b333", func := "loop.example/g01126/laws.FnExactSpreadOfWindings", spec := "fnExactSpreadOfWindings", unfollowed := true, recurses := true, apart := false }
def FnExactSpreadOfWindingsSaid : Prop := fnExactSpreadOfWindingsRow.holds Try.pinned (OpenSpec.ofChange fnExactSpreadOfWindingsSpec)

/-- ITS FALSE NEIGHBOUR: 'it returns false'. Refute it at one input. -/
def fnExactSpreadOfWindingsWrong : ChangeSpec := { name := "fnExactSpreadOfWindings", fn := fun _ => fun
  | [d] => { results := [.lit (.bool false)], args := [d] }
  | _ => none }
def FnExactSpreadOfWindingsWrongFalsely : Prop := fnExactSpreadOfWindingsRow.holds Try.pinned (OpenSpec.ofChange fnExactSpreadOfWindingsWrong)

/- THE SECOND FORM. 'bulk': how many values and letters a reading holds, each counted each time it is reached (what is shared counts as often as it is met; a slice's spare places count too). A statement '..UptoSaid' is the law's where the arguments, and the package variables that the reading takes, are together of bulk at most 1048576: NARROWER than '..Said'. Prove '..Said' where nothing that the law and all that it calls make is longer than what came in: it says more and counts as full. Else prove '..UptoSaid'. A law counts once. -/
mutual
def uptoBulk {H : Type} : DataW H → Nat
  | .lit (.string bytes) => bytes.length + 1
  | .lit _ => 1
  | .nil => 1
  | .ptr d => uptoBulk d + 1
  | .slice elems spare => uptoBulkAll elems + uptoBulkAll spare + 1
  | .agg parts => uptoBulkAll parts + 1
  | .iface _ d => uptoBulk d + 1
  | .map entries => uptoBulkEntries entries + 1
  | .held _ => 1
def uptoBulkAll {H : Type} : List (DataW H) → Nat
  | [] => 0
  | d :: r => uptoBulk d + uptoBulkAll r
def uptoBulkEntries {H : Type} : List (Lit × DataW H) → Nat
  | [] => 0
  | x :: r => uptoBulkEntry x + uptoBulkEntries r
def uptoBulkEntry {H : Type} : Lit × DataW H → Nat
  | (.string bytes, d) => bytes.length + uptoBulk d + 1
  | (_, d) => uptoBulk d + 1
 end
def uptoSmall : (H : Type) → List (DataW H) → Bool := fun _ ds => decide (uptoBulkAll ds ≤ 1048576)
def OpenSpec.upto (s : _root_.Go.ChangeSpec) : _root_.Go.OpenSpec := { _root_.Go.OpenSpec.ofChange s with cond := some uptoSmall }

/-- 'laws.FnExactExchangePath', WHERE WHAT IT READS IS OF BULK AT MOST 1048576: true; the input reads as it did. -/
def fnExactExchangePathUptoRow : OpenClaim := { program := "ytfcjgcbjiongpab", sum := "9a0ea593b2099a0c1d29caf2b0b8f0238ac6878dd75b9454467343062758b333", func := "loop.example/g01126/laws.FnExactExchangePath", spec := "fnExactExchangePath", unfollowed := true, recurses := true, apart := false, narrowed := true }
def FnExactExchangePathUptoSaid : Prop := fnExactExchangePathUptoRow.holds Try.pinned (OpenSpec.upto fnExactExchangePathSpec)

/-- 'laws.FnExactCountShortest', WHERE WHAT IT READS IS OF BULK AT MOST 1048576: true; the input reads as it did. -/
def fnExactCountShortestUptoRow : OpenClaim := { program := "ytfcjgcbjiongpab", sum := "9a0ea593b2099a0c1d29caf2b0b8f0238ac6878dd75b9454467343062758b333", func := "loop.example/g01126/laws.FnExactCountShortest", spec := "fnExactCountShortest", unfollowed := true, recurses := true, apart := false, narrowed := true }
def FnExactCountShortestUptoSaid : Prop := fnExactCountShortestUptoRow.holds Try.pinned (OpenSpec.upto fnExactCountShortestSpec)

/-- 'laws.FnExactBetweenSystems', WHERE WHAT IT READS IS OF BULK AT MOST 1048576: true; the input reads as it did. -/
def fnExactBetweenSystemsUptoRow : OpenClaim := { program := "ytfcjgcbjiongpab", sum := "9a0ea593b2099a0c1d29caf2b0b8f0238ac6878dd75b9454467343062758b333", func := "loop.example/g01126/laws.FnExactBetweenSystems", spec := "fnExactBetweenSystems", unfollowed := true, recurses := true, apart := false, narrowed := true }
def FnExactBetweenSystemsUptoSaid : Prop := fnExactBetweenSystemsUptoRow.holds Try.pinned (OpenSpec.upto fnExactBetweenSystemsSpec)

/-- 'laws.FnExactMergePath', WHERE WHAT IT READS IS OF BULK AT MOST 1048576: true; the input reads as it did. -/
def fnExactMergePathUptoRow : OpenClaim := { program := "ytfcjgcbjiongpab", sum := "9a0ea593b2099a0c1d29caf2b0b8f0238ac6878dd75b9454467343062758b333", func := "loop.example/g01126/laws.FnExactMergePath", spec := "fnExactMergePath", unfollowed := true, recurses := true, apart := false, narrowed := true }
def FnExactMergePathUptoSaid : Prop := fnExactMergePathUptoRow.holds Try.pinned (OpenSpec.upto fnExactMergePathSpec)

/-- 'laws.FnExactSplitPath', WHERE WHAT IT READS IS OF BULK AT MOST 1048576: true; the input reads as it did. -/
def fnExactSplitPathUptoRow : OpenClaim := { program := "ytfcjgcbjiongpab", sum := "9a0ea593b2099a0c1d29caf2b0b8f0238ac6878dd75b9454467343062758b333", func := "loop.example/g01126/laws.FnExactSplitPath", spec := "fnExactSplitPath", unfollowed := true, recurses := true, apart := false, narrowed := true }
def FnExactSplitPathUptoSaid : Prop := fnExactSplitPathUptoRow.holds Try.pinned (OpenSpec.upto fnExactSplitPathSpec)

/-- 'laws.FnExactAllSemis', WHERE WHAT IT READS IS OF BULK AT MOST 1048576: true; the input reads as it did. -/
def fnExactAllSemisUptoRow : OpenClaim := { program := "ytfcjgcbjiongpab", sum := "9a0ea593b2099a0c1d29caf2b0b8f0238ac6878dd75b9454467343062758b333", func := "loop.example/g01126/laws.FnExactAllSemis", spec := "fnExactAllSemis", unfollowed := true, recurses := true, apart := false, narrowed := true }
def FnExactAllSemisUptoSaid : Prop := fnExactAllSemisUptoRow.holds Try.pinned (OpenSpec.upto fnExactAllSemisSpec)

/-- 'laws.FnExactSpreadOfWindings', WHERE WHAT IT READS IS OF BULK AT MOST 1048576: true; the input reads as it did. -/
def fnExactSpreadOfWindingsUptoRow : OpenClaim := { program := "ytfcjgcbjiongpab", sum := "9a0ea593b2099a0c1d29caf2b0b8f0238ac6878dd75b9454467343062758b333", func := "loop.example/g01126/laws.FnExactSpreadOfWindings", spec := "fnExactSpreadOfWindings", unfollowed := true, recurses := true, apart := false, narrowed := true }
def FnExactSpreadOfWindingsUptoSaid : Prop := fnExactSpreadOfWindingsUptoRow.holds Try.pinned (OpenSpec.upto fnExactSpreadOfWindingsSpec)

end Rows
end Go.Proofs.Ytfcjgcbjiongpab
