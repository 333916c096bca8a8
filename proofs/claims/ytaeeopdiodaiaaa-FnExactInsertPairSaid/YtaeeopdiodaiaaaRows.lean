/-
  No cell of these rows narrows 'for every input' (looked for: loops, veiled, ifaces, maps, wideKeys, modest, calm, conditions, laid).
  DERIVED. THE GIVEN ROWS OF THIS SEAT. 8 by the template 'for every input the law returns true; each argument reads behind the call as it read before'; 0 by the template 'total and deterministic' (their statements: YtaeeopdiodaiaaaTotals.lean).
  GIVEN WITH THE SEED: the statements are not yours to turn. If you find one false, say at which input.
  Laid BY PROGRAM, IN A SANDBOX (cutbox-rows.mjs): the forced cells as the released guide's own fill.sh prints them over the translation 969c5d0039648f30… (all of the seat's roots in one cut). By AI agents, Wed Nov 11 2026. No macro, syntax, notation, axiom, sorry.
-/
import Derived.Test.YtaeeopdiodaiaaaChecked
import GoSem.Claim
import GoSem.ClaimJoined
import GoSem.ClaimMapViews
import Derived.JoinedTies
import Derived.KernelRfl
namespace Go.Proofs.Ytaeeopdiodaiaaa
/- THE CELL 'sum', in the pinned program and in every row, IS THE sha256 OF THE DUMP (.gsa) THAT YtaeeopdiodaiaaaProg.lean LOADS. Nothing in Lean hashes anything: it is a label: what it is worth is what the hold of that sum in a sandbox is worth. -/
noncomputable def Try.pinned : Pinned := { name := "ytaeeopdiodaiaaa", sum := "969c5d0039648f309a8e9271aec6a920c08e2556cdff362e3053cb1544f09325", checked := Try.checked }
namespace Rows
def none {H : Type} : Left H := { results := [], args := [] }

/-- 'laws.FnExactIsClosed': WHATEVER THE INPUT: true; the input reads as it did. -/
def fnExactIsClosedSpec : ChangeSpec := { name := "fnExactIsClosed", fn := fun _ => fun
  | [d1, d2, d3] => { results := [.lit (.bool true)], args := [d1, d2, d3] }
  | _ => none }
def fnExactIsClosedRow : OpenClaim := { program := "ytaeeopdiodaiaaa", sum := "969c5d0039648f309a8e9271aec6a920c08e2556cdff362e3053cb1544f09325", func := "loop.example/g01126/laws.FnExactIsClosed", spec := "fnExactIsClosed", apart := false }
def FnExactIsClosedSaid : Prop := fnExactIsClosedRow.holds Try.pinned (OpenSpec.ofChange fnExactIsClosedSpec)

/-- ITS FALSE NEIGHBOUR: 'it returns false'. Refute it at one input. -/
def fnExactIsClosedWrong : ChangeSpec := { name := "fnExactIsClosed", fn := fun _ => fun
  | [d1, d2, d3] => { results := [.lit (.bool false)], args := [d1, d2, d3] }
  | _ => none }
def FnExactIsClosedWrongFalsely : Prop := fnExactIsClosedRow.holds Try.pinned (OpenSpec.ofChange fnExactIsClosedWrong)

/-- 'laws.FnExactClosedStretches': WHATEVER THE INPUT: true; the input reads as it did. -/
def fnExactClosedStretchesSpec : ChangeSpec := { name := "fnExactClosedStretches", fn := fun _ => fun
  | [d] => { results := [.lit (.bool true)], args := [d] }
  | _ => none }
def fnExactClosedStretchesRow : OpenClaim := { program := "ytaeeopdiodaiaaa", sum := "969c5d0039648f309a8e9271aec6a920c08e2556cdff362e3053cb1544f09325", func := "loop.example/g01126/laws.FnExactClosedStretches", spec := "fnExactClosedStretches", unfollowed := true, recurses := true, apart := false }
def FnExactClosedStretchesSaid : Prop := fnExactClosedStretchesRow.holds Try.pinned (OpenSpec.ofChange fnExactClosedStretchesSpec)

/-- ITS FALSE NEIGHBOUR: 'it returns false'. Refute it at one input. -/
def fnExactClosedStretchesWrong : ChangeSpec := { name := "fnExactClosedStretches", fn := fun _ => fun
  | [d] => { results := [.lit (.bool false)], args := [d] }
  | _ => none }
def FnExactClosedStretchesWrongFalsely : Prop := fnExactClosedStretchesRow.holds Try.pinned (OpenSpec.ofChange fnExactClosedStretchesWrong)

/-- 'laws.FnExactInsideOf': WHATEVER THE INPUT: true; the input reads as it did. -/
def fnExactInsideOfSpec : ChangeSpec := { name := "fnExactInsideOf", fn := fun _ => fun
  | [d1, d2, d3] => { results := [.lit (.bool true)], args := [d1, d2, d3] }
  | _ => none }
def fnExactInsideOfRow : OpenClaim := { program := "ytaeeopdiodaiaaa", sum := "969c5d0039648f309a8e9271aec6a920c08e2556cdff362e3053cb1544f09325", func := "loop.example/g01126/laws.FnExactInsideOf", spec := "fnExactInsideOf", unfollowed := true, recurses := true, apart := false }
def FnExactInsideOfSaid : Prop := fnExactInsideOfRow.holds Try.pinned (OpenSpec.ofChange fnExactInsideOfSpec)

/-- ITS FALSE NEIGHBOUR: 'it returns false'. Refute it at one input. -/
def fnExactInsideOfWrong : ChangeSpec := { name := "fnExactInsideOf", fn := fun _ => fun
  | [d1, d2, d3] => { results := [.lit (.bool false)], args := [d1, d2, d3] }
  | _ => none }
def FnExactInsideOfWrongFalsely : Prop := fnExactInsideOfRow.holds Try.pinned (OpenSpec.ofChange fnExactInsideOfWrong)

/-- 'laws.FnExactOutsideOf': WHATEVER THE INPUT: true; the input reads as it did. -/
def fnExactOutsideOfSpec : ChangeSpec := { name := "fnExactOutsideOf", fn := fun _ => fun
  | [d1, d2, d3] => { results := [.lit (.bool true)], args := [d1, d2, d3] }
  | _ => none }
def fnExactOutsideOfRow : OpenClaim := { program := "ytaeeopdiodaiaaa", sum := "969c5d0039648f309a8e9271aec6a920c08e2556cdff362e3053cb1544f09325", func := "loop.example/g01126/laws.FnExactOutsideOf", spec := "fnExactOutsideOf", unfollowed := true, recurses := true, apart := false }
def FnExactOutsideOfSaid : Prop := fnExactOutsideOfRow.holds Try.pinned (OpenSpec.ofChange fnExactOutsideOfSpec)

/-- ITS FALSE NEIGHBOUR: 'it returns false'. Refute it at one input. -/
def fnExactOutsideOfWrong : ChangeSpec := { name := "fnExactOutsideOf", fn := fun _ => fun
  | [d1, d2, d3] => { results := [.lit (.bool false)], args := [d1, d2, d3] }
  | _ => none }
def FnExactOutsideOfWrongFalsely : Prop := fnExactOutsideOfRow.holds Try.pinned (OpenSpec.ofChange fnExactOutsideOfWrong)

/-- 'laws.FnExactInsertPair': WHATEVER THE INPUT: true; the input reads as it did. -/
def fnExactInsertPairSpec : ChangeSpec := { name := "fnExactInsertPair", fn := fun _ => fun
  | [d1, d2, d3] => { results := [.lit (.bool true)], args := [d1, d2, d3] }
  | _ => none }
def fnExactInsertPairRow : OpenClaim := { program := "ytaeeopdiodaiaaa", sum := "969c5d0039648f309a8e9271aec6a920c08e2556cdff362e3053cb1544f09325", func := "loop.example/g01126/laws.FnExactInsertPair", spec := "fnExactInsertPair", unfollowed := true, recurses := true, apart := false }
def FnExactInsertPairSaid : Prop := fnExactInsertPairRow.holds Try.pinned (OpenSpec.ofChange fnExactInsertPairSpec)

/-- ITS FALSE NEIGHBOUR: 'it returns false'. Refute it at one input. -/
def fnExactInsertPairWrong : ChangeSpec := { name := "fnExactInsertPair", fn := fun _ => fun
  | [d1, d2, d3] => { results := [.lit (.bool false)], args := [d1, d2, d3] }
  | _ => none }
def FnExactInsertPairWrongFalsely : Prop := fnExactInsertPairRow.holds Try.pinned (OpenSpec.ofChange fnExactInsertPairWrong)

/-- 'laws.FnExactShortestClosed': WHATEVER THE INPUT: true; the input reads as it did. -/
def fnExactShortestClosedSpec : ChangeSpec := { name := "fnExactShortestClosed", fn := fun _ => fun
  | [d] => { results := [.lit (.bool true)], args := [d] }
  | _ => none }
def fnExactShortestClosedRow : OpenClaim := { program := "ytaeeopdiodaiaaa", sum := "969c5d0039648f309a8e9271aec6a920c08e2556cdff362e3053cb1544f09325", func := "loop.example/g01126/laws.FnExactShortestClosed", spec := "fnExactShortestClosed", unfollowed := true, recurses := true, apart := false }
def FnExactShortestClosedSaid : Prop := fnExactShortestClosedRow.holds Try.pinned (OpenSpec.ofChange fnExactShortestClosedSpec)

/-- ITS FALSE NEIGHBOUR: 'it returns false'. Refute it at one input. -/
def fnExactShortestClosedWrong : ChangeSpec := { name := "fnExactShortestClosed", fn := fun _ => fun
  | [d] => { results := [.lit (.bool false)], args := [d] }
  | _ => none }
def FnExactShortestClosedWrongFalsely : Prop := fnExactShortestClosedRow.holds Try.pinned (OpenSpec.ofChange fnExactShortestClosedWrong)

/-- 'laws.FnExactIsWhole': WHATEVER THE INPUT: true; the input reads as it did. -/
def fnExactIsWholeSpec : ChangeSpec := { name := "fnExactIsWhole", fn := fun _ => fun
  | [d] => { results := [.lit (.bool true)], args := [d] }
  | _ => none }
def fnExactIsWholeRow : OpenClaim := { program := "ytaeeopdiodaiaaa", sum := "969c5d0039648f309a8e9271aec6a920c08e2556cdff362e3053cb1544f09325", func := "loop.example/g01126/laws.FnExactIsWhole", spec := "fnExactIsWhole", unfollowed := true, recurses := true, apart := false }
def FnExactIsWholeSaid : Prop := fnExactIsWholeRow.holds Try.pinned (OpenSpec.ofChange fnExactIsWholeSpec)

/-- ITS FALSE NEIGHBOUR: 'it returns false'. Refute it at one input. -/
def fnExactIsWholeWrong : ChangeSpec := { name := "fnExactIsWhole", fn := fun _ => fun
  | [d] => { results := [.lit (.bool false)], args := [d] }
  | _ => none }
def FnExactIsWholeWrongFalsely : Prop := fnExactIsWholeRow.holds Try.pinned (OpenSpec.ofChange fnExactIsWholeWrong)

/-- 'laws.FnExactCountWhole': WHATEVER THE INPUT: true; the input reads as it did. -/
def fnExactCountWholeSpec : ChangeSpec := { name := "fnExactCountWhole", fn := fun _ => fun
  | [d] => { results := [.lit (.bool true)], args := [d] }
  | _ => none }
def fnExactCountWholeRow : OpenClaim := { program := "ytaeeopdiodaiaaa", sum := "969c5d0039648f309a8e9271aec6a920c08e2556cdff362e3053cb1544f09325", func := "loop.example/g01126/laws.FnExactCountWhole", spec := "fnExactCountWhole", unfollowed := true, recurses := true, apart := false }
def FnExactCountWholeSaid : Prop := fnExactCountWholeRow.holds Try.pinned (OpenSpec.ofChange fnExactCountWholeSpec)

/-- ITS FALSE NEIGHBOUR: 'it returns false'. Refute it at one input. -/
def fnExactCountWholeWrong : ChangeSpec := { name := "fnExactCountWhole", fn := fun _ => fun
  | [d] => { results := [.lit (.bool false)], args := [d] }
  | _ => none }
def FnExactCountWholeWrongFalsely : Prop := fnExactCountWholeRow.holds Try.pinned (OpenSpec.ofChange fnExactCountWholeWrong)

/- THE SECOND FORM. 'bulk': how many values and letters a reading holds, each counted each time it is reached (what is shared counts as often as it is met; a slice's spare places count too). A statement '..UptoSaid' is the law's where the arguments, and the package variables that the reading takes, are together of bulk at most 1048576: NARROWER than '..Said'. Prove '..Said' where nothing that the law and all that it calls make is longer than what came in: it says more and counts as full. Else prove '..UptoSaid'. A law counts once. -/
mutual
def uptoBulk {H : Type} : DataW H → Nat
  | .lit (.string bytes) => bytes.length + 1
  | .lit _ => 1
  | .nil => 1
  | .ptr d => uptoBulk d + 1
  | .slice elems spare => uptoBulkAll elems + uptoBulkAll spare + 1
  | .agg parts => uptoBulkAll parts + 1
  | .iface _ d => uptoBulk d + 1
  | .map entries => uptoBulkEntries entries + 1
  | .held _ => 1
def uptoBulkAll {H : Type} : List (DataW H) → Nat
  | [] => 0
  | d :: r => uptoBulk d + uptoBulkAll r
def uptoBulkEntries {H : Type} : List (Lit × DataW H) → Nat
  | [] => 0
  | x :: r => uptoBulkEntry x + uptoBulkEntries r
def uptoBulkEntry {H : Type} : Lit × DataW H → Nat
  | (.string bytes, d) => bytes.length + uptoBulk d + 1
  | (_, d) => uptoBulk d + 1
 end
def uptoSmall : (H : Type) → List (DataW H) → Bool := fun _ ds => decide (uptoBulkAll ds ≤ 1048576)
def OpenSpec.upto (s : _root_.Go.ChangeSpec) : _root_.Go.OpenSpec := { _root_.Go.OpenSpec.ofChange s with cond := some uptoSmall }

/-- 'laws.FnExactIsClosed', WHERE WHAT IT READS IS OF BULK AT MOST 1048576: true; the input reads as it did. -/
def fnExactIsClosedUptoRow : OpenClaim := { program := "ytaeeopdiodaiaaa", sum := "969c5d0039648f309a8e9271aec6a920c08e2556cdff362e3053cb1544f09325", func := "loop.example/g01126/laws.FnExactIsClosed", spec := "fnExactIsClosed", apart := false, narrowed := true }
def FnExactIsClosedUptoSaid : Prop := fnExactIsClosedUptoRow.holds Try.pinned (OpenSpec.upto fnExactIsClosedSpec)

/-- 'laws.FnExactClosedStretches', WHERE WHAT IT READS IS OF BULK AT MOST 1048576: true; the input reads as it did. -/
def fnExactClosedStretchesUptoRow : OpenClaim := { program := "ytaeeopdiodaiaaa", sum := "969c5d0039648f309a8e9271aec6a920c08e2556cdff362e3053cb1544f09325", func := "loop.example/g01126/laws.FnExactClosedStretches", spec := "fnExactClosedStretches", unfollowed := true, recurses := true, apart := false, narrowed := true }
def FnExactClosedStretchesUptoSaid : Prop := fnExactClosedStretchesUptoRow.holds Try.pinned (OpenSpec.upto fnExactClosedStretchesSpec)

/-- 'laws.FnExactInsideOf', WHERE WHAT IT READS IS OF BULK AT MOST 1048576: true; the input reads as it did. -/
def fnExactInsideOfUptoRow : OpenClaim := { program := "ytaeeopdiodaiaaa", sum := "969c5d0039648f309a8e9271aec6a920c08e2556cdff362e3053cb1544f09325", func := "loop.example/g01126/laws.FnExactInsideOf", spec := "fnExactInsideOf", unfollowed := true, recurses := true, apart := false, narrowed := true }
def FnExactInsideOfUptoSaid : Prop := fnExactInsideOfUptoRow.holds Try.pinned (OpenSpec.upto fnExactInsideOfSpec)

/-- 'laws.FnExactOutsideOf', WHERE WHAT IT READS IS OF BULK AT MOST 1048576: true; the input reads as it did. -/
def fnExactOutsideOfUptoRow : OpenClaim := { program := "ytaeeopdiodaiaaa", sum := "969c5d0039648f309a8e9271aec6a920c08e2556cdff362e3053cb1544f09325", func := "loop.example/g01126/laws.FnExactOutsideOf", spec := "fnExactOutsideOf", unfollowed := true, recurses := true, apart := false, narrowed := true }
def FnExactOutsideOfUptoSaid : Prop := fnExactOutsideOfUptoRow.holds Try.pinned (OpenSpec.upto fnExactOutsideOfSpec)

/-- 'laws.FnExactInsertPair', WHERE WHAT IT READS IS OF BULK AT MOST 1048576: true; the input reads as it did. -/
def fnExactInsertPairUptoRow : OpenClaim := { program := "ytaeeopdiodaiaaa", sum := "969c5d0039648f309a8e9271aec6a920c08e2556cdff362e3053cb1544f09325", func := "loop.example/g01126/laws.FnExactInsertPair", spec := "fnExactInsertPair", unfollowed := true, recurses := true, apart := false, narrowed := true }
def FnExactInsertPairUptoSaid : Prop := fnExactInsertPairUptoRow.holds Try.pinned (OpenSpec.upto fnExactInsertPairSpec)

/-- 'laws.FnExactShortestClosed', WHERE WHAT IT READS IS OF BULK AT MOST 1048576: true; the input reads as it did. -/
def fnExactShortestClosedUptoRow : OpenClaim := { program := "ytaeeopdiodaiaaa", sum := "969c5d0039648f309a8e9271aec6a920c08e2556cdff362e3053cb1544f09325", func := "loop.example/g01126/laws.FnExactShortestClosed", spec := "fnExactShortestClosed", unfollowed := true, recurses := true, apart := false, narrowed := true }
def FnExactShortestClosedUptoSaid : Prop := fnExactShortestClosedUptoRow.holds Try.pinned (OpenSpec.upto fnExactShortestClosedSpec)

/-- 'laws.FnExactIsWhole', WHERE WHAT IT READS IS OF BULK AT MOST 1048576: true; the input reads as it did. -/
def fnExactIsWholeUptoRow : OpenClaim := { program := "ytaeeopdiodaiaaa", sum := "969c5d0039648f309a8e9271aec6a920c08e2556cdff362e3053cb1544f09325", func := "loop.example/g01126/laws.FnExactIsWhole", spec := "fnExactIsWhole", unfollowed := true, recurses := true, apart := false, narrowed := true }
def FnExactIsWholeUptoSaid : Prop := fnExactIsWholeUptoRow.holds Try.pinned (OpenSpec.upto fnExactIsWholeSpec)

/-- 'laws.FnExactCountWhole', WHERE WHAT IT READS IS OF BULK AT MOST 1048576: true; the input reads as it did. -/
def fnExactCountWholeUptoRow : OpenClaim := { program := "ytaeeopdiodaiaaa", sum := "969c5d0039648f309a8e9271aec6a920c08e2556cdff362e3053cb1544f09325", func := "loop.example/g01126/laws.FnExactCountWhole", spec := "fnExactCountWhole", unfollowed := true, recurses := true, apart := false, narrowed := true }
def FnExactCountWholeUptoSaid : Prop := fnExactCountWholeUptoRow.holds Try.pinned (OpenSpec.upto fnExactCountWholeSpec)

end Rows
end Go.Proofs.Ytaeeopdiodaiaaa
