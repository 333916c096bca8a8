/-
  No cell of these rows narrows 'for every input' (looked for: loops, veiled, ifaces, maps, wideKeys, modest, calm, conditions, laid).
  DERIVED. THE GIVEN ROWS OF THIS SEAT. 8 by the template 'for every input the law returns true; each argument reads behind the call as it read before'; 0 by the template 'total and deterministic' (their statements: YtodbjkfikbkkbaaTotals.lean).
  GIVEN WITH THE SEED: the statements are not yours to turn. If you find one false, say at which input.
  Laid BY PROGRAM, IN A SANDBOX (cutbox-rows.mjs): the forced cells as the released guide's own fill.sh prints them over the translation 3f7efee6324a6fa6… (all of the seat's roots in one cut). By AI agents, Wed Nov 11 2026. No macro, syntax, notation, axiom, sorry.
-/
import Derived.Test.YtodbjkfikbkkbaaChecked
import GoSem.Claim
import GoSem.ClaimJoined
import GoSem.ClaimMapViews
import Derived.JoinedTies
import Derived.KernelRfl
namespace Go.Proofs.Ytodbjkfikbkkbaa
/- THE CELL 'sum', in the pinned program and in every row, IS THE sha256 OF THE DUMP (.gsa) THAT YtodbjkfikbkkbaaProg.lean LOADS. Nothing in Lean hashes anything: it is a label: what it is worth is what the hold of that sum in a sandbox is worth. -/
noncomputable def Try.pinned : Pinned := { name := "ytodbjkfikbkkbaa", sum := "3f7efee6324a6fa617c46a8bb09d6fd3f8ca3881eae871da97f3da99d2871d5c", checked := Try.checked }
namespace Rows
def none {H : Type} : Left H := { results := [], args := [] }

/-- 'laws.FnExactIsFolding': WHATEVER THE INPUT: true; the input reads as it did. -/
def fnExactIsFoldingSpec : ChangeSpec := { name := "fnExactIsFolding", fn := fun _ => fun
  | [d] => { results := [.lit (.bool true)], args := [d] }
  | _ => none }
def fnExactIsFoldingRow : OpenClaim := { program := "ytodbjkfikbkkbaa", sum := "3f7efee6324a6fa617c46a8bb09d6fd3f8ca3881eae871da97f3da99d2871d5c", func := "loop.example/g01126/laws.FnExactIsFolding", spec := "fnExactIsFolding", apart := false }
def FnExactIsFoldingSaid : Prop := fnExactIsFoldingRow.holds Try.pinned (OpenSpec.ofChange fnExactIsFoldingSpec)

/-- ITS FALSE NEIGHBOUR: 'it returns false'. Refute it at one input. -/
def fnExactIsFoldingWrong : ChangeSpec := { name := "fnExactIsFolding", fn := fun _ => fun
  | [d] => { results := [.lit (.bool false)], args := [d] }
  | _ => none }
def FnExactIsFoldingWrongFalsely : Prop := fnExactIsFoldingRow.holds Try.pinned (OpenSpec.ofChange fnExactIsFoldingWrong)

/-- 'laws.FnExactCrossedArcs': WHATEVER THE INPUT: true; the input reads as it did. -/
def fnExactCrossedArcsSpec : ChangeSpec := { name := "fnExactCrossedArcs", fn := fun _ => fun
  | [d] => { results := [.lit (.bool true)], args := [d] }
  | _ => none }
def fnExactCrossedArcsRow : OpenClaim := { program := "ytodbjkfikbkkbaa", sum := "3f7efee6324a6fa617c46a8bb09d6fd3f8ca3881eae871da97f3da99d2871d5c", func := "loop.example/g01126/laws.FnExactCrossedArcs", spec := "fnExactCrossedArcs", apart := false }
def FnExactCrossedArcsSaid : Prop := fnExactCrossedArcsRow.holds Try.pinned (OpenSpec.ofChange fnExactCrossedArcsSpec)

/-- ITS FALSE NEIGHBOUR: 'it returns false'. Refute it at one input. -/
def fnExactCrossedArcsWrong : ChangeSpec := { name := "fnExactCrossedArcs", fn := fun _ => fun
  | [d] => { results := [.lit (.bool false)], args := [d] }
  | _ => none }
def FnExactCrossedArcsWrongFalsely : Prop := fnExactCrossedArcsRow.holds Try.pinned (OpenSpec.ofChange fnExactCrossedArcsWrong)

/-- 'laws.FnExactTurnFolding': WHATEVER THE INPUT: true; the input reads as it did. -/
def fnExactTurnFoldingSpec : ChangeSpec := { name := "fnExactTurnFolding", fn := fun _ => fun
  | [d1, d2] => { results := [.lit (.bool true)], args := [d1, d2] }
  | _ => none }
def fnExactTurnFoldingRow : OpenClaim := { program := "ytodbjkfikbkkbaa", sum := "3f7efee6324a6fa617c46a8bb09d6fd3f8ca3881eae871da97f3da99d2871d5c", func := "loop.example/g01126/laws.FnExactTurnFolding", spec := "fnExactTurnFolding", unfollowed := true, recurses := true, apart := false }
def FnExactTurnFoldingSaid : Prop := fnExactTurnFoldingRow.holds Try.pinned (OpenSpec.ofChange fnExactTurnFoldingSpec)

/-- ITS FALSE NEIGHBOUR: 'it returns false'. Refute it at one input. -/
def fnExactTurnFoldingWrong : ChangeSpec := { name := "fnExactTurnFolding", fn := fun _ => fun
  | [d1, d2] => { results := [.lit (.bool false)], args := [d1, d2] }
  | _ => none }
def FnExactTurnFoldingWrongFalsely : Prop := fnExactTurnFoldingRow.holds Try.pinned (OpenSpec.ofChange fnExactTurnFoldingWrong)

/-- 'laws.FnExactReverseFolding': WHATEVER THE INPUT: true; the input reads as it did. -/
def fnExactReverseFoldingSpec : ChangeSpec := { name := "fnExactReverseFolding", fn := fun _ => fun
  | [d] => { results := [.lit (.bool true)], args := [d] }
  | _ => none }
def fnExactReverseFoldingRow : OpenClaim := { program := "ytodbjkfikbkkbaa", sum := "3f7efee6324a6fa617c46a8bb09d6fd3f8ca3881eae871da97f3da99d2871d5c", func := "loop.example/g01126/laws.FnExactReverseFolding", spec := "fnExactReverseFolding", unfollowed := true, recurses := true, apart := false }
def FnExactReverseFoldingSaid : Prop := fnExactReverseFoldingRow.holds Try.pinned (OpenSpec.ofChange fnExactReverseFoldingSpec)

/-- ITS FALSE NEIGHBOUR: 'it returns false'. Refute it at one input. -/
def fnExactReverseFoldingWrong : ChangeSpec := { name := "fnExactReverseFolding", fn := fun _ => fun
  | [d] => { results := [.lit (.bool false)], args := [d] }
  | _ => none }
def FnExactReverseFoldingWrongFalsely : Prop := fnExactReverseFoldingRow.holds Try.pinned (OpenSpec.ofChange fnExactReverseFoldingWrong)

/-- 'laws.FnExactRenumberFolding': WHATEVER THE INPUT: true; the input reads as it did. -/
def fnExactRenumberFoldingSpec : ChangeSpec := { name := "fnExactRenumberFolding", fn := fun _ => fun
  | [d] => { results := [.lit (.bool true)], args := [d] }
  | _ => none }
def fnExactRenumberFoldingRow : OpenClaim := { program := "ytodbjkfikbkkbaa", sum := "3f7efee6324a6fa617c46a8bb09d6fd3f8ca3881eae871da97f3da99d2871d5c", func := "loop.example/g01126/laws.FnExactRenumberFolding", spec := "fnExactRenumberFolding", unfollowed := true, recurses := true, apart := false }
def FnExactRenumberFoldingSaid : Prop := fnExactRenumberFoldingRow.holds Try.pinned (OpenSpec.ofChange fnExactRenumberFoldingSpec)

/-- ITS FALSE NEIGHBOUR: 'it returns false'. Refute it at one input. -/
def fnExactRenumberFoldingWrong : ChangeSpec := { name := "fnExactRenumberFolding", fn := fun _ => fun
  | [d] => { results := [.lit (.bool false)], args := [d] }
  | _ => none }
def FnExactRenumberFoldingWrongFalsely : Prop := fnExactRenumberFoldingRow.holds Try.pinned (OpenSpec.ofChange fnExactRenumberFoldingWrong)

/-- 'laws.FnExactFoldingText': WHATEVER THE INPUT: true; the input reads as it did. -/
def fnExactFoldingTextSpec : ChangeSpec := { name := "fnExactFoldingText", fn := fun _ => fun
  | [d] => { results := [.lit (.bool true)], args := [d] }
  | _ => none }
def fnExactFoldingTextRow : OpenClaim := { program := "ytodbjkfikbkkbaa", sum := "3f7efee6324a6fa617c46a8bb09d6fd3f8ca3881eae871da97f3da99d2871d5c", func := "loop.example/g01126/laws.FnExactFoldingText", spec := "fnExactFoldingText", recurses := true, apart := false }
def FnExactFoldingTextSaid : Prop := fnExactFoldingTextRow.holds Try.pinned (OpenSpec.ofChange fnExactFoldingTextSpec)

/-- ITS FALSE NEIGHBOUR: 'it returns false'. Refute it at one input. -/
def fnExactFoldingTextWrong : ChangeSpec := { name := "fnExactFoldingText", fn := fun _ => fun
  | [d] => { results := [.lit (.bool false)], args := [d] }
  | _ => none }
def FnExactFoldingTextWrongFalsely : Prop := fnExactFoldingTextRow.holds Try.pinned (OpenSpec.ofChange fnExactFoldingTextWrong)

/-- 'laws.FnExactParseFolding': WHATEVER THE INPUT: true; the input reads as it did. -/
def fnExactParseFoldingSpec : ChangeSpec := { name := "fnExactParseFolding", fn := fun _ => fun
  | [d] => { results := [.lit (.bool true)], args := [d] }
  | _ => none }
def fnExactParseFoldingRow : OpenClaim := { program := "ytodbjkfikbkkbaa", sum := "3f7efee6324a6fa617c46a8bb09d6fd3f8ca3881eae871da97f3da99d2871d5c", func := "loop.example/g01126/laws.FnExactParseFolding", spec := "fnExactParseFolding", apart := false }
def FnExactParseFoldingSaid : Prop := fnExactParseFoldingRow.holds Try.pinned (OpenSpec.ofChange fnExactParseFoldingSpec)

/-- ITS FALSE NEIGHBOUR: 'it returns false'. Refute it at one input. -/
def fnExactParseFoldingWrong : ChangeSpec := { name := "fnExactParseFolding", fn := fun _ => fun
  | [d] => { results := [.lit (.bool false)], args := [d] }
  | _ => none }
def FnExactParseFoldingWrongFalsely : Prop := fnExactParseFoldingRow.holds Try.pinned (OpenSpec.ofChange fnExactParseFoldingWrong)

/-- 'laws.FnExactRainbowOf': WHATEVER THE INPUT: true; the input reads as it did. -/
def fnExactRainbowOfSpec : ChangeSpec := { name := "fnExactRainbowOf", fn := fun _ => fun
  | [d] => { results := [.lit (.bool true)], args := [d] }
  | _ => none }
def fnExactRainbowOfRow : OpenClaim := { program := "ytodbjkfikbkkbaa", sum := "3f7efee6324a6fa617c46a8bb09d6fd3f8ca3881eae871da97f3da99d2871d5c", func := "loop.example/g01126/laws.FnExactRainbowOf", spec := "fnExactRainbowOf", apart := false }
def FnExactRainbowOfSaid : Prop := fnExactRainbowOfRow.holds Try.pinned (OpenSpec.ofChange fnExactRainbowOfSpec)

/-- ITS FALSE NEIGHBOUR: 'it returns false'. Refute it at one input. -/
def fnExactRainbowOfWrong : ChangeSpec := { name := "fnExactRainbowOf", fn := fun _ => fun
  | [d] => { results := [.lit (.bool false)], args := [d] }
  | _ => none }
def FnExactRainbowOfWrongFalsely : Prop := fnExactRainbowOfRow.holds Try.pinned (OpenSpec.ofChange fnExactRainbowOfWrong)

/- THE SECOND FORM. 'bulk': how many values and letters a reading holds, each counted each time it is reached (what is shared counts as often as it is met; a slice's spare places count too). A statement '..UptoSaid' is the law's where the arguments, and the package variables that the reading takes, are together of bulk at most 1048576: NARROWER than '..Said'. Prove '..Said' where nothing that the law and all that it calls make is longer than what came in: it says more and counts as full. Else prove '..UptoSaid'. A law counts once. -/
mutual
def uptoBulk {H : Type} : DataW H → Nat
  | .lit (.string bytes) => bytes.length + 1
  | .lit _ => 1
  | .nil => 1
  | .ptr d => uptoBulk d + 1
  | .slice elems spare => uptoBulkAll elems + uptoBulkAll spare + 1
  | .agg parts => uptoBulkAll parts + 1
  | .iface _ d => uptoBulk d + 1
  | .map entries => uptoBulkEntries entries + 1
  | .held _ => 1
def uptoBulkAll {H : Type} : List (DataW H) → Nat
  | [] => 0
  | d :: r => uptoBulk d + uptoBulkAll r
def uptoBulkEntries {H : Type} : List (Lit × DataW H) → Nat
  | [] => 0
  | x :: r => uptoBulkEntry x + uptoBulkEntries r
def uptoBulkEntry {H : Type} : Lit × DataW H → Nat
  | (.string bytes, d) => bytes.length + uptoBulk d + 1
  | (_, d) => uptoBulk d + 1
 end
def uptoSmall : (H : Type) → List (DataW H) → Bool := fun _ ds => decide (uptoBulkAll ds ≤ 1048576)
def OpenSpec.upto (s : _root_.Go.ChangeSpec) : _root_.Go.OpenSpec := { _root_.Go.OpenSpec.ofChange s with cond := some uptoSmall }

/-- 'laws.FnExactIsFolding', WHERE WHAT IT READS IS OF BULK AT MOST 1048576: true; the input reads as it did. -/
def fnExactIsFoldingUptoRow : OpenClaim := { program := "ytodbjkfikbkkbaa", sum := "3f7efee6324a6fa617c46a8bb09d6fd3f8ca3881eae871da97f3da99d2871d5c", func := "loop.example/g01126/laws.FnExactIsFolding", spec := "fnExactIsFolding", apart := false, narrowed := true }
def FnExactIsFoldingUptoSaid : Prop := fnExactIsFoldingUptoRow.holds Try.pinned (OpenSpec.upto fnExactIsFoldingSpec)

/-- 'laws.FnExactCrossedArcs', WHERE WHAT IT READS IS OF BULK AT MOST 1048576: true; the input reads as it did. -/
def fnExactCrossedArcsUptoRow : OpenClaim := { program := "ytodbjkfikbkkbaa", sum := "3f7efee6324a6fa617c46a8bb09d6fd3f8ca3881eae871da97f3da99d2871d5c", func := "loop.example/g01126/laws.FnExactCrossedArcs", spec := "fnExactCrossedArcs", apart := false, narrowed := true }
def FnExactCrossedArcsUptoSaid : Prop := fnExactCrossedArcsUptoRow.holds Try.pinned (OpenSpec.upto fnExactCrossedArcsSpec)

/-- 'laws.FnExactTurnFolding', WHERE WHAT IT READS IS OF BULK AT MOST 1048576: true; the input reads as it did. -/
def fnExactTurnFoldingUptoRow : OpenClaim := { program := "ytodbjkfikbkkbaa", sum := "3f7efee6324a6fa617c46a8bb09d6fd3f8ca3881eae871da97f3da99d2871d5c", func := "loop.example/g01126/laws.FnExactTurnFolding", spec := "fnExactTurnFolding", unfollowed := true, recurses := true, apart := false, narrowed := true }
def FnExactTurnFoldingUptoSaid : Prop := fnExactTurnFoldingUptoRow.holds Try.pinned (OpenSpec.upto fnExactTurnFoldingSpec)

/-- 'laws.FnExactReverseFolding', WHERE WHAT IT READS IS OF BULK AT MOST 1048576: true; the input reads as it did. -/
def fnExactReverseFoldingUptoRow : OpenClaim := { program := "ytodbjkfikbkkbaa", sum := "3f7efee6324a6fa617c46a8bb09d6fd3f8ca3881eae871da97f3da99d2871d5c", func := "loop.example/g01126/laws.FnExactReverseFolding", spec := "fnExactReverseFolding", unfollowed := true, recurses := true, apart := false, narrowed := true }
def FnExactReverseFoldingUptoSaid : Prop := fnExactReverseFoldingUptoRow.holds Try.pinned (OpenSpec.upto fnExactReverseFoldingSpec)

/-- 'laws.FnExactRenumberFolding', WHERE WHAT IT READS IS OF BULK AT MOST 1048576: true; the input reads as it did. -/
def fnExactRenumberFoldingUptoRow : OpenClaim := { program := "ytodbjkfikbkkbaa", sum := "3f7efee6324a6fa617c46a8bb09d6fd3f8ca3881eae871da97f3da99d2871d5c", func := "loop.example/g01126/laws.FnExactRenumberFolding", spec := "fnExactRenumberFolding", unfollowed := true, recurses := true, apart := false, narrowed := true }
def FnExactRenumberFoldingUptoSaid : Prop := fnExactRenumberFoldingUptoRow.holds Try.pinned (OpenSpec.upto fnExactRenumberFoldingSpec)

/-- 'laws.FnExactFoldingText', WHERE WHAT IT READS IS OF BULK AT MOST 1048576: true; the input reads as it did. -/
def fnExactFoldingTextUptoRow : OpenClaim := { program := "ytodbjkfikbkkbaa", sum := "3f7efee6324a6fa617c46a8bb09d6fd3f8ca3881eae871da97f3da99d2871d5c", func := "loop.example/g01126/laws.FnExactFoldingText", spec := "fnExactFoldingText", recurses := true, apart := false, narrowed := true }
def FnExactFoldingTextUptoSaid : Prop := fnExactFoldingTextUptoRow.holds Try.pinned (OpenSpec.upto fnExactFoldingTextSpec)

/-- 'laws.FnExactParseFolding', WHERE WHAT IT READS IS OF BULK AT MOST 1048576: true; the input reads as it did. -/
def fnExactParseFoldingUptoRow : OpenClaim := { program := "ytodbjkfikbkkbaa", sum := "3f7efee6324a6fa617c46a8bb09d6fd3f8ca3881eae871da97f3da99d2871d5c", func := "loop.example/g01126/laws.FnExactParseFolding", spec := "fnExactParseFolding", apart := false, narrowed := true }
def FnExactParseFoldingUptoSaid : Prop := fnExactParseFoldingUptoRow.holds Try.pinned (OpenSpec.upto fnExactParseFoldingSpec)

/-- 'laws.FnExactRainbowOf', WHERE WHAT IT READS IS OF BULK AT MOST 1048576: true; the input reads as it did. -/
def fnExactRainbowOfUptoRow : OpenClaim := { program := "ytodbjkfikbkkbaa", sum := "3f7efee6324a6fa617c46a8bb09d6fd3f8ca3881eae871da97f3da99d2871d5c", func := "loop.example/g01126/laws.FnExactRainbowOf", spec := "fnExactRainbowOf", apart := false, narrowed := true }
def FnExactRainbowOfUptoSaid : Prop := fnExactRainbowOfUptoRow.holds Try.pinned (OpenSpec.upto fnExactRainbowOfSpec)

end Rows
end Go.Proofs.Ytodbjkfikbkkbaa
