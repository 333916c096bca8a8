/-
  No cell of these rows narrows 'for every input' (looked for: loops, veiled, ifaces, maps, wideKeys, modest, calm, conditions, laid).
  DERIVED. THE GIVEN ROWS OF THIS SEAT. 8 by the template 'for every input the law returns true; each argument reads behind the call as it read before'; 0 by the template 'total and deterministic' (their statements: YtodbjkfikbkkbacTotals.lean).
  GIVEN WITH THE SEED: the statements are not yours to turn. If you find one false, say at which input.
  Laid BY PROGRAM, IN A SANDBOX (cutbox-rows.mjs): the forced cells as the released guide's own fill.sh prints them over the translation 1fc3d6c4b24cd141… (all of the seat's roots in one cut). By AI agents, Wed Nov 11 2026. No macro, syntax, notation, axiom, sorry.
-/
import Derived.Test.YtodbjkfikbkkbacChecked
import GoSem.Claim
import GoSem.ClaimJoined
import GoSem.ClaimMapViews
import Derived.JoinedTies
import Derived.KernelRfl
namespace Go.Proofs.Ytodbjkfikbkkbac
/- THE CELL 'sum', in the pinned program and in every row, IS THE sha256 OF THE DUMP (.gsa) THAT YtodbjkfikbkkbacProg.lean LOADS. Nothing in Lean hashes anything: it is a label: what it is worth is what the hold of that sum in a sandbox is worth. -/
noncomputable def Try.pinned : Pinned := { name := "ytodbjkfikbkkbac", sum := "1fc3d6c4b24cd141ef770d49ea583330eaf0ffe985fd1ccaa1225fc7ba8036bc", checked := Try.checked }
namespace Rows
def none {H : Type} : Left H := { results := [], args := [] }

/-- 'laws.FnExactIsSemi': WHATEVER THE INPUT: true; the input reads as it did. -/
def fnExactIsSemiSpec : ChangeSpec := { name := "fnExactIsSemi", fn := fun _ => fun
  | [d] => { results := [.lit (.bool true)], args := [d] }
  | _ => none }
def fnExactIsSemiRow : OpenClaim := { program := "ytodbjkfikbkkbac", sum := "1fc3d6c4b24cd141ef770d49ea583330eaf0ffe985fd1ccaa1225fc7ba8036bc", func := "loop.example/g01126/laws.FnExactIsSemi", spec := "fnExactIsSemi", unfollowed := true, recurses := true, plainKeys := false, apart := false }
def FnExactIsSemiSaid : Prop := fnExactIsSemiRow.holds Try.pinned (OpenSpec.ofChange fnExactIsSemiSpec)

/-- ITS FALSE NEIGHBOUR: 'it returns false'. Refute it at one input. -/
def fnExactIsSemiWrong : ChangeSpec := { name := "fnExactIsSemi", fn := fun _ => fun
  | [d] => { results := [.lit (.bool false)], args := [d] }
  | _ => none }
def FnExactIsSemiWrongFalsely : Prop := fnExactIsSemiRow.holds Try.pinned (OpenSpec.ofChange fnExactIsSemiWrong)

/-- 'laws.FnExactAllSemis': WHATEVER THE INPUT: true; the input reads as it did. -/
def fnExactAllSemisSpec : ChangeSpec := { name := "fnExactAllSemis", fn := fun _ => fun
  | [d] => { results := [.lit (.bool true)], args := [d] }
  | _ => none }
def fnExactAllSemisRow : OpenClaim := { program := "ytodbjkfikbkkbac", sum := "1fc3d6c4b24cd141ef770d49ea583330eaf0ffe985fd1ccaa1225fc7ba8036bc", func := "loop.example/g01126/laws.FnExactAllSemis", spec := "fnExactAllSemis", unfollowed := true, recurses := true, plainKeys := false, apart := false }
def FnExactAllSemisSaid : Prop := fnExactAllSemisRow.holds Try.pinned (OpenSpec.ofChange fnExactAllSemisSpec)

/-- ITS FALSE NEIGHBOUR: 'it returns false'. Refute it at one input. -/
def fnExactAllSemisWrong : ChangeSpec := { name := "fnExactAllSemis", fn := fun _ => fun
  | [d] => { results := [.lit (.bool false)], args := [d] }
  | _ => none }
def FnExactAllSemisWrongFalsely : Prop := fnExactAllSemisRow.holds Try.pinned (OpenSpec.ofChange fnExactAllSemisWrong)

/-- 'laws.FnExactSpreadOfWindings': WHATEVER THE INPUT: true; the input reads as it did. -/
def fnExactSpreadOfWindingsSpec : ChangeSpec := { name := "fnExactSpreadOfWindings", fn := fun _ => fun
  | [d] => { results := [.lit (.bool true)], args := [d] }
  | _ => none }
def fnExactSpreadOfWindingsRow : OpenClaim := { program := "ytodbjkfikbkkbac", sum := "1fc3d6c4b24cd141ef770d49ea583330eaf0ffe985fd1ccaa1225fc7ba8036bc", func := "loop.example/g01126/laws.FnExactSpreadOfWindings", spec := "fnExactSpreadOfWindings", unfollowed := true, recurses := true, plainKeys := false, apart := false }
def FnExactSpreadOfWindingsSaid : Prop := fnExactSpreadOfWindingsRow.holds Try.pinned (OpenSpec.ofChange fnExactSpreadOfWindingsSpec)

/-- ITS FALSE NEIGHBOUR: 'it returns false'. Refute it at one input. -/
def fnExactSpreadOfWindingsWrong : ChangeSpec := { name := "fnExactSpreadOfWindings", fn := fun _ => fun
  | [d] => { results := [.lit (.bool false)], args := [d] }
  | _ => none }
def FnExactSpreadOfWindingsWrongFalsely : Prop := fnExactSpreadOfWindingsRow.holds Try.pinned (OpenSpec.ofChange fnExactSpreadOfWindingsWrong)

/-- 'laws.FnExactWindingOf': WHATEVER THE INPUT: true; the input reads as it did. -/
def fnExactWindingOfSpec : ChangeSpec := { name := "fnExactWindingOf", fn := fun _ => fun
  | [d] => { results := [.lit (.bool true)], args := [d] }
  | _ => none }
def fnExactWindingOfRow : OpenClaim := { program := "ytodbjkfikbkkbac", sum := "1fc3d6c4b24cd141ef770d49ea583330eaf0ffe985fd1ccaa1225fc7ba8036bc", func := "loop.example/g01126/laws.FnExactWindingOf", spec := "fnExactWindingOf", plainKeys := false, apart := false }
def FnExactWindingOfSaid : Prop := fnExactWindingOfRow.holds Try.pinned (OpenSpec.ofChange fnExactWindingOfSpec)

/-- ITS FALSE NEIGHBOUR: 'it returns false'. Refute it at one input. -/
def fnExactWindingOfWrong : ChangeSpec := { name := "fnExactWindingOf", fn := fun _ => fun
  | [d] => { results := [.lit (.bool false)], args := [d] }
  | _ => none }
def FnExactWindingOfWrongFalsely : Prop := fnExactWindingOfRow.holds Try.pinned (OpenSpec.ofChange fnExactWindingOfWrong)

/-- 'laws.FnExactFoldingOfSemi': WHATEVER THE INPUT: true; the input reads as it did. -/
def fnExactFoldingOfSemiSpec : ChangeSpec := { name := "fnExactFoldingOfSemi", fn := fun _ => fun
  | [d] => { results := [.lit (.bool true)], args := [d] }
  | _ => none }
def fnExactFoldingOfSemiRow : OpenClaim := { program := "ytodbjkfikbkkbac", sum := "1fc3d6c4b24cd141ef770d49ea583330eaf0ffe985fd1ccaa1225fc7ba8036bc", func := "loop.example/g01126/laws.FnExactFoldingOfSemi", spec := "fnExactFoldingOfSemi", unfollowed := true, recurses := true, plainKeys := false, apart := false }
def FnExactFoldingOfSemiSaid : Prop := fnExactFoldingOfSemiRow.holds Try.pinned (OpenSpec.ofChange fnExactFoldingOfSemiSpec)

/-- ITS FALSE NEIGHBOUR: 'it returns false'. Refute it at one input. -/
def fnExactFoldingOfSemiWrong : ChangeSpec := { name := "fnExactFoldingOfSemi", fn := fun _ => fun
  | [d] => { results := [.lit (.bool false)], args := [d] }
  | _ => none }
def FnExactFoldingOfSemiWrongFalsely : Prop := fnExactFoldingOfSemiRow.holds Try.pinned (OpenSpec.ofChange fnExactFoldingOfSemiWrong)

/-- 'laws.FnExactCountByStates': WHATEVER THE INPUT: true; the input reads as it did. -/
def fnExactCountByStatesSpec : ChangeSpec := { name := "fnExactCountByStates", fn := fun _ => fun
  | [d] => { results := [.lit (.bool true)], args := [d] }
  | _ => none }
def fnExactCountByStatesRow : OpenClaim := { program := "ytodbjkfikbkkbac", sum := "1fc3d6c4b24cd141ef770d49ea583330eaf0ffe985fd1ccaa1225fc7ba8036bc", func := "loop.example/g01126/laws.FnExactCountByStates", spec := "fnExactCountByStates", unfollowed := true, recurses := true, plainKeys := false, apart := false }
def FnExactCountByStatesSaid : Prop := fnExactCountByStatesRow.holds Try.pinned (OpenSpec.ofChange fnExactCountByStatesSpec)

/-- ITS FALSE NEIGHBOUR: 'it returns false'. Refute it at one input. -/
def fnExactCountByStatesWrong : ChangeSpec := { name := "fnExactCountByStates", fn := fun _ => fun
  | [d] => { results := [.lit (.bool false)], args := [d] }
  | _ => none }
def FnExactCountByStatesWrongFalsely : Prop := fnExactCountByStatesRow.holds Try.pinned (OpenSpec.ofChange fnExactCountByStatesWrong)

/-- 'laws.FnExactMeandersByStates': WHATEVER THE INPUT: true; the input reads as it did. -/
def fnExactMeandersByStatesSpec : ChangeSpec := { name := "fnExactMeandersByStates", fn := fun _ => fun
  | [d] => { results := [.lit (.bool true)], args := [d] }
  | _ => none }
def fnExactMeandersByStatesRow : OpenClaim := { program := "ytodbjkfikbkkbac", sum := "1fc3d6c4b24cd141ef770d49ea583330eaf0ffe985fd1ccaa1225fc7ba8036bc", func := "loop.example/g01126/laws.FnExactMeandersByStates", spec := "fnExactMeandersByStates", unfollowed := true, recurses := true, plainKeys := false, apart := false }
def FnExactMeandersByStatesSaid : Prop := fnExactMeandersByStatesRow.holds Try.pinned (OpenSpec.ofChange fnExactMeandersByStatesSpec)

/-- ITS FALSE NEIGHBOUR: 'it returns false'. Refute it at one input. -/
def fnExactMeandersByStatesWrong : ChangeSpec := { name := "fnExactMeandersByStates", fn := fun _ => fun
  | [d] => { results := [.lit (.bool false)], args := [d] }
  | _ => none }
def FnExactMeandersByStatesWrongFalsely : Prop := fnExactMeandersByStatesRow.holds Try.pinned (OpenSpec.ofChange fnExactMeandersByStatesWrong)

/-- 'laws.FnExactWaysToClose': WHATEVER THE INPUT: true; the input reads as it did. -/
def fnExactWaysToCloseSpec : ChangeSpec := { name := "fnExactWaysToClose", fn := fun _ => fun
  | [d1, d2, d3] => { results := [.lit (.bool true)], args := [d1, d2, d3] }
  | _ => none }
def fnExactWaysToCloseRow : OpenClaim := { program := "ytodbjkfikbkkbac", sum := "1fc3d6c4b24cd141ef770d49ea583330eaf0ffe985fd1ccaa1225fc7ba8036bc", func := "loop.example/g01126/laws.FnExactWaysToClose", spec := "fnExactWaysToClose", unfollowed := true, recurses := true, plainKeys := false, apart := false }
def FnExactWaysToCloseSaid : Prop := fnExactWaysToCloseRow.holds Try.pinned (OpenSpec.ofChange fnExactWaysToCloseSpec)

/-- ITS FALSE NEIGHBOUR: 'it returns false'. Refute it at one input. -/
def fnExactWaysToCloseWrong : ChangeSpec := { name := "fnExactWaysToClose", fn := fun _ => fun
  | [d1, d2, d3] => { results := [.lit (.bool false)], args := [d1, d2, d3] }
  | _ => none }
def FnExactWaysToCloseWrongFalsely : Prop := fnExactWaysToCloseRow.holds Try.pinned (OpenSpec.ofChange fnExactWaysToCloseWrong)

/- THE SECOND FORM. 'bulk': how many values and letters a reading holds, each counted each time it is reached (what is shared counts as often as it is met; a slice's spare places count too). A statement '..UptoSaid' is the law's where the arguments, and the package variables that the reading takes, are together of bulk at most 1048576: NARROWER than '..Said'. Prove '..Said' where nothing that the law and all that it calls make is longer than what came in: it says more and counts as full. Else prove '..UptoSaid'. A law counts once. -/
mutual
def uptoBulk {H : Type} : DataW H → Nat
  | .lit (.string bytes) => bytes.length + 1
  | .lit _ => 1
  | .nil => 1
  | .ptr d => uptoBulk d + 1
  | .slice elems spare => uptoBulkAll elems + uptoBulkAll spare + 1
  | .agg parts => uptoBulkAll parts + 1
  | .iface _ d => uptoBulk d + 1
  | .map entries => uptoBulkEntries entries + 1
  | .held _ => 1
def uptoBulkAll {H : Type} : List (DataW H) → Nat
  | [] => 0
  | d :: r => uptoBulk d + uptoBulkAll r
def uptoBulkEntries {H : Type} : List (Lit × DataW H) → Nat
  | [] => 0
  | x :: r => uptoBulkEntry x + uptoBulkEntries r
def uptoBulkEntry {H : Type} : Lit × DataW H → Nat
  | (.string bytes, d) => bytes.length + uptoBulk d + 1
  | (_, d) => uptoBulk d + 1
 end
def uptoSmall : (H : Type) → List (DataW H) → Bool := fun _ ds => decide (uptoBulkAll ds ≤ 1048576)
def OpenSpec.upto (s : _root_.Go.ChangeSpec) : _root_.Go.OpenSpec := { _root_.Go.OpenSpec.ofChange s with cond := some uptoSmall }

/-- 'laws.FnExactIsSemi', WHERE WHAT IT READS IS OF BULK AT MOST 1048576: true; the input reads as it did. -/
def fnExactIsSemiUptoRow : OpenClaim := { program := "ytodbjkfikbkkbac", sum := "1fc3d6c4b24cd141ef770d49ea583330eaf0ffe985fd1ccaa1225fc7ba8036bc", func := "loop.example/g01126/laws.FnExactIsSemi", spec := "fnExactIsSemi", unfollowed := true, recurses := true, plainKeys := false, apart := false, narrowed := true }
def FnExactIsSemiUptoSaid : Prop := fnExactIsSemiUptoRow.holds Try.pinned (OpenSpec.upto fnExactIsSemiSpec)

/-- 'laws.FnExactAllSemis', WHERE WHAT IT READS IS OF BULK AT MOST 1048576: true; the input reads as it did. -/
def fnExactAllSemisUptoRow : OpenClaim := { program := "ytodbjkfikbkkbac", sum := "1fc3d6c4b24cd141ef770d49ea583330eaf0ffe985fd1ccaa1225fc7ba8036bc", func := "loop.example/g01126/laws.FnExactAllSemis", spec := "fnExactAllSemis", unfollowed := true, recurses := true, plainKeys := false, apart := false, narrowed := true }
def FnExactAllSemisUptoSaid : Prop := fnExactAllSemisUptoRow.holds Try.pinned (OpenSpec.upto fnExactAllSemisSpec)

/-- 'laws.FnExactSpreadOfWindings', WHERE WHAT IT READS IS OF BULK AT MOST 1048576: true; the input reads as it did. -/
def fnExactSpreadOfWindingsUptoRow : OpenClaim := { program := "ytodbjkfikbkkbac", sum := "1fc3d6c4b24cd141ef770d49ea583330eaf0ffe985fd1ccaa1225fc7ba8036bc", func := "loop.example/g01126/laws.FnExactSpreadOfWindings", spec := "fnExactSpreadOfWindings", unfollowed := true, recurses := true, plainKeys := false, apart := false, narrowed := true }
def FnExactSpreadOfWindingsUptoSaid : Prop := fnExactSpreadOfWindingsUptoRow.holds Try.pinned (OpenSpec.upto fnExactSpreadOfWindingsSpec)

/-- 'laws.FnExactWindingOf', WHERE WHAT IT READS IS OF BULK AT MOST 1048576: true; the input reads as it did. -/
def fnExactWindingOfUptoRow : OpenClaim := { program := "ytodbjkfikbkkbac", sum := "1fc3d6c4b24cd141ef770d49ea583330eaf0ffe985fd1ccaa1225fc7ba8036bc", func := "loop.example/g01126/laws.FnExactWindingOf", spec := "fnExactWindingOf", plainKeys := false, apart := false, narrowed := true }
def FnExactWindingOfUptoSaid : Prop := fnExactWindingOfUptoRow.holds Try.pinned (OpenSpec.upto fnExactWindingOfSpec)

/-- 'laws.FnExactFoldingOfSemi', WHERE WHAT IT READS IS OF BULK AT MOST 1048576: true; the input reads as it did. -/
def fnExactFoldingOfSemiUptoRow : OpenClaim := { program := "ytodbjkfikbkkbac", sum := "1fc3d6c4b24cd141ef770d49ea583330eaf0ffe985fd1ccaa1225fc7ba8036bc", func := "loop.example/g01126/laws.FnExactFoldingOfSemi", spec := "fnExactFoldingOfSemi", unfollowed := true, recurses := true, plainKeys := false, apart := false, narrowed := true }
def FnExactFoldingOfSemiUptoSaid : Prop := fnExactFoldingOfSemiUptoRow.holds Try.pinned (OpenSpec.upto fnExactFoldingOfSemiSpec)

/-- 'laws.FnExactCountByStates', WHERE WHAT IT READS IS OF BULK AT MOST 1048576: true; the input reads as it did. -/
def fnExactCountByStatesUptoRow : OpenClaim := { program := "ytodbjkfikbkkbac", sum := "1fc3d6c4b24cd141ef770d49ea583330eaf0ffe985fd1ccaa1225fc7ba8036bc", func := "loop.example/g01126/laws.FnExactCountByStates", spec := "fnExactCountByStates", unfollowed := true, recurses := true, plainKeys := false, apart := false, narrowed := true }
def FnExactCountByStatesUptoSaid : Prop := fnExactCountByStatesUptoRow.holds Try.pinned (OpenSpec.upto fnExactCountByStatesSpec)

/-- 'laws.FnExactMeandersByStates', WHERE WHAT IT READS IS OF BULK AT MOST 1048576: true; the input reads as it did. -/
def fnExactMeandersByStatesUptoRow : OpenClaim := { program := "ytodbjkfikbkkbac", sum := "1fc3d6c4b24cd141ef770d49ea583330eaf0ffe985fd1ccaa1225fc7ba8036bc", func := "loop.example/g01126/laws.FnExactMeandersByStates", spec := "fnExactMeandersByStates", unfollowed := true, recurses := true, plainKeys := false, apart := false, narrowed := true }
def FnExactMeandersByStatesUptoSaid : Prop := fnExactMeandersByStatesUptoRow.holds Try.pinned (OpenSpec.upto fnExactMeandersByStatesSpec)

/-- 'laws.FnExactWaysToClose', WHERE WHAT IT READS IS OF BULK AT MOST 1048576: true; the input reads as it did. -/
def fnExactWaysToCloseUptoRow : OpenClaim := { program := "ytodbjkfikbkkbac", sum := "1fc3d6c4b24cd141ef770d49ea583330eaf0ffe985fd1ccaa1225fc7ba8036bc", func := "loop.example/g01126/laws.FnExactWaysToClose", spec := "fnExactWaysToClose", unfollowed := true, recurses := true, plainKeys := false, apart := false, narrowed := true }
def FnExactWaysToCloseUptoSaid : Prop := fnExactWaysToCloseUptoRow.holds Try.pinned (OpenSpec.upto fnExactWaysToCloseSpec)

end Rows
end Go.Proofs.Ytodbjkfikbkkbac
