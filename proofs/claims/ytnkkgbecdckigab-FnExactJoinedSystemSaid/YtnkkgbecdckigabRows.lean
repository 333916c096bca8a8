/-
  No cell of these rows narrows 'for every input' (looked for: loops, veiled, ifaces, maps, wideKeys, modest, calm, conditions, laid).
  DERIVED. THE GIVEN ROWS OF THIS SEAT. 8 by the template 'for every input the law returns true; each argument reads behind the call as it read before'; 0 by the template 'total and deterministic' (their statements: YtnkkgbecdckigabTotals.lean).
  GIVEN WITH THE SEED: the statements are not yours to turn. If you find one false, say at which input.
  Laid BY PROGRAM, IN A SANDBOX (cutbox-rows.mjs): the forced cells as the released guide's own fill.sh prints them over the translation 7c29cbd8e1057cad… (all of the seat's roots in one cut). By AI agents, Wed Nov 11 2026. No macro, syntax, notation, axiom, sorry.
-/
import Derived.Test.YtnkkgbecdckigabChecked
import GoSem.Claim
import GoSem.ClaimJoined
import GoSem.ClaimMapViews
import Derived.JoinedTies
import Derived.KernelRfl
namespace Go.Proofs.Ytnkkgbecdckigab
/- THE CELL 'sum', in the pinned program and in every row, IS THE sha256 OF THE DUMP (.gsa) THAT YtnkkgbecdckigabProg.lean LOADS. Nothing in Lean hashes anything: it is a label: what it is worth is what the hold of that sum in a sandbox is worth. -/
noncomputable def Try.pinned : Pinned := { name := "ytnkkgbecdckigab", sum := "7c29cbd8e1057cad4f1e630b2a41cfebacaa16d9458fc8123c0c99ca23e15bd6", checked := Try.checked }
namespace Rows
def none {H : Type} : Left H := { results := [], args := [] }

/-- 'laws.FnExactValueAt': WHATEVER THE INPUT: true; the input reads as it did. -/
def fnExactValueAtSpec : ChangeSpec := { name := "fnExactValueAt", fn := fun _ => fun
  | [d1, d2] => { results := [.lit (.bool true)], args := [d1, d2] }
  | _ => none }
def fnExactValueAtRow : OpenClaim := { program := "ytnkkgbecdckigab", sum := "7c29cbd8e1057cad4f1e630b2a41cfebacaa16d9458fc8123c0c99ca23e15bd6", func := "loop.example/g01126/laws.FnExactValueAt", spec := "fnExactValueAt", apart := false }
def FnExactValueAtSaid : Prop := fnExactValueAtRow.holds Try.pinned (OpenSpec.ofChange fnExactValueAtSpec)

/-- ITS FALSE NEIGHBOUR: 'it returns false'. Refute it at one input. -/
def fnExactValueAtWrong : ChangeSpec := { name := "fnExactValueAt", fn := fun _ => fun
  | [d1, d2] => { results := [.lit (.bool false)], args := [d1, d2] }
  | _ => none }
def FnExactValueAtWrongFalsely : Prop := fnExactValueAtRow.holds Try.pinned (OpenSpec.ofChange fnExactValueAtWrong)

/-- 'laws.FnExactExponentOf': WHATEVER THE INPUT: true; the input reads as it did. -/
def fnExactExponentOfSpec : ChangeSpec := { name := "fnExactExponentOf", fn := fun _ => fun
  | [d1, d2] => { results := [.lit (.bool true)], args := [d1, d2] }
  | _ => none }
def fnExactExponentOfRow : OpenClaim := { program := "ytnkkgbecdckigab", sum := "7c29cbd8e1057cad4f1e630b2a41cfebacaa16d9458fc8123c0c99ca23e15bd6", func := "loop.example/g01126/laws.FnExactExponentOf", spec := "fnExactExponentOf", apart := false }
def FnExactExponentOfSaid : Prop := fnExactExponentOfRow.holds Try.pinned (OpenSpec.ofChange fnExactExponentOfSpec)

/-- ITS FALSE NEIGHBOUR: 'it returns false'. Refute it at one input. -/
def fnExactExponentOfWrong : ChangeSpec := { name := "fnExactExponentOf", fn := fun _ => fun
  | [d1, d2] => { results := [.lit (.bool false)], args := [d1, d2] }
  | _ => none }
def FnExactExponentOfWrongFalsely : Prop := fnExactExponentOfRow.holds Try.pinned (OpenSpec.ofChange fnExactExponentOfWrong)

/-- 'laws.FnExactProductDeterminant': WHATEVER THE INPUT: true; the input reads as it did. -/
def fnExactProductDeterminantSpec : ChangeSpec := { name := "fnExactProductDeterminant", fn := fun _ => fun
  | [d1, d2] => { results := [.lit (.bool true)], args := [d1, d2] }
  | _ => none }
def fnExactProductDeterminantRow : OpenClaim := { program := "ytnkkgbecdckigab", sum := "7c29cbd8e1057cad4f1e630b2a41cfebacaa16d9458fc8123c0c99ca23e15bd6", func := "loop.example/g01126/laws.FnExactProductDeterminant", spec := "fnExactProductDeterminant", apart := false }
def FnExactProductDeterminantSaid : Prop := fnExactProductDeterminantRow.holds Try.pinned (OpenSpec.ofChange fnExactProductDeterminantSpec)

/-- ITS FALSE NEIGHBOUR: 'it returns false'. Refute it at one input. -/
def fnExactProductDeterminantWrong : ChangeSpec := { name := "fnExactProductDeterminant", fn := fun _ => fun
  | [d1, d2] => { results := [.lit (.bool false)], args := [d1, d2] }
  | _ => none }
def FnExactProductDeterminantWrongFalsely : Prop := fnExactProductDeterminantRow.holds Try.pinned (OpenSpec.ofChange fnExactProductDeterminantWrong)

/-- 'laws.FnExactApplyTable': WHATEVER THE INPUT: true; the input reads as it did. -/
def fnExactApplyTableSpec : ChangeSpec := { name := "fnExactApplyTable", fn := fun _ => fun
  | [d1, d2] => { results := [.lit (.bool true)], args := [d1, d2] }
  | _ => none }
def fnExactApplyTableRow : OpenClaim := { program := "ytnkkgbecdckigab", sum := "7c29cbd8e1057cad4f1e630b2a41cfebacaa16d9458fc8123c0c99ca23e15bd6", func := "loop.example/g01126/laws.FnExactApplyTable", spec := "fnExactApplyTable", unfollowed := true, recurses := true, apart := false }
def FnExactApplyTableSaid : Prop := fnExactApplyTableRow.holds Try.pinned (OpenSpec.ofChange fnExactApplyTableSpec)

/-- ITS FALSE NEIGHBOUR: 'it returns false'. Refute it at one input. -/
def fnExactApplyTableWrong : ChangeSpec := { name := "fnExactApplyTable", fn := fun _ => fun
  | [d1, d2] => { results := [.lit (.bool false)], args := [d1, d2] }
  | _ => none }
def FnExactApplyTableWrongFalsely : Prop := fnExactApplyTableRow.holds Try.pinned (OpenSpec.ofChange fnExactApplyTableWrong)

/-- 'laws.FnExactJoinedSystem': WHATEVER THE INPUT: true; the input reads as it did. -/
def fnExactJoinedSystemSpec : ChangeSpec := { name := "fnExactJoinedSystem", fn := fun _ => fun
  | [d1, d2] => { results := [.lit (.bool true)], args := [d1, d2] }
  | _ => none }
def fnExactJoinedSystemRow : OpenClaim := { program := "ytnkkgbecdckigab", sum := "7c29cbd8e1057cad4f1e630b2a41cfebacaa16d9458fc8123c0c99ca23e15bd6", func := "loop.example/g01126/laws.FnExactJoinedSystem", spec := "fnExactJoinedSystem", apart := false }
def FnExactJoinedSystemSaid : Prop := fnExactJoinedSystemRow.holds Try.pinned (OpenSpec.ofChange fnExactJoinedSystemSpec)

/-- ITS FALSE NEIGHBOUR: 'it returns false'. Refute it at one input. -/
def fnExactJoinedSystemWrong : ChangeSpec := { name := "fnExactJoinedSystem", fn := fun _ => fun
  | [d1, d2] => { results := [.lit (.bool false)], args := [d1, d2] }
  | _ => none }
def FnExactJoinedSystemWrongFalsely : Prop := fnExactJoinedSystemRow.holds Try.pinned (OpenSpec.ofChange fnExactJoinedSystemWrong)

/-- 'laws.FnExactTableAt': WHATEVER THE INPUT: true; the input reads as it did. -/
def fnExactTableAtSpec : ChangeSpec := { name := "fnExactTableAt", fn := fun _ => fun
  | [d1, d2] => { results := [.lit (.bool true)], args := [d1, d2] }
  | _ => none }
def fnExactTableAtRow : OpenClaim := { program := "ytnkkgbecdckigab", sum := "7c29cbd8e1057cad4f1e630b2a41cfebacaa16d9458fc8123c0c99ca23e15bd6", func := "loop.example/g01126/laws.FnExactTableAt", spec := "fnExactTableAt", unfollowed := true, recurses := true, apart := false }
def FnExactTableAtSaid : Prop := fnExactTableAtRow.holds Try.pinned (OpenSpec.ofChange fnExactTableAtSpec)

/-- ITS FALSE NEIGHBOUR: 'it returns false'. Refute it at one input. -/
def fnExactTableAtWrong : ChangeSpec := { name := "fnExactTableAt", fn := fun _ => fun
  | [d1, d2] => { results := [.lit (.bool false)], args := [d1, d2] }
  | _ => none }
def FnExactTableAtWrongFalsely : Prop := fnExactTableAtRow.holds Try.pinned (OpenSpec.ofChange fnExactTableAtWrong)

/-- 'laws.FnExactExponentTable': WHATEVER THE INPUT: true; the input reads as it did. -/
def fnExactExponentTableSpec : ChangeSpec := { name := "fnExactExponentTable", fn := fun _ => fun
  | [d] => { results := [.lit (.bool true)], args := [d] }
  | _ => none }
def fnExactExponentTableRow : OpenClaim := { program := "ytnkkgbecdckigab", sum := "7c29cbd8e1057cad4f1e630b2a41cfebacaa16d9458fc8123c0c99ca23e15bd6", func := "loop.example/g01126/laws.FnExactExponentTable", spec := "fnExactExponentTable", unfollowed := true, recurses := true, apart := false }
def FnExactExponentTableSaid : Prop := fnExactExponentTableRow.holds Try.pinned (OpenSpec.ofChange fnExactExponentTableSpec)

/-- ITS FALSE NEIGHBOUR: 'it returns false'. Refute it at one input. -/
def fnExactExponentTableWrong : ChangeSpec := { name := "fnExactExponentTable", fn := fun _ => fun
  | [d] => { results := [.lit (.bool false)], args := [d] }
  | _ => none }
def FnExactExponentTableWrongFalsely : Prop := fnExactExponentTableRow.holds Try.pinned (OpenSpec.ofChange fnExactExponentTableWrong)

/-- 'laws.FnExactSumOfTable': WHATEVER THE INPUT: true; the input reads as it did. -/
def fnExactSumOfTableSpec : ChangeSpec := { name := "fnExactSumOfTable", fn := fun _ => fun
  | [d1, d2] => { results := [.lit (.bool true)], args := [d1, d2] }
  | _ => none }
def fnExactSumOfTableRow : OpenClaim := { program := "ytnkkgbecdckigab", sum := "7c29cbd8e1057cad4f1e630b2a41cfebacaa16d9458fc8123c0c99ca23e15bd6", func := "loop.example/g01126/laws.FnExactSumOfTable", spec := "fnExactSumOfTable", unfollowed := true, recurses := true, apart := false }
def FnExactSumOfTableSaid : Prop := fnExactSumOfTableRow.holds Try.pinned (OpenSpec.ofChange fnExactSumOfTableSpec)

/-- ITS FALSE NEIGHBOUR: 'it returns false'. Refute it at one input. -/
def fnExactSumOfTableWrong : ChangeSpec := { name := "fnExactSumOfTable", fn := fun _ => fun
  | [d1, d2] => { results := [.lit (.bool false)], args := [d1, d2] }
  | _ => none }
def FnExactSumOfTableWrongFalsely : Prop := fnExactSumOfTableRow.holds Try.pinned (OpenSpec.ofChange fnExactSumOfTableWrong)

/- THE SECOND FORM. 'bulk': how many values and letters a reading holds, each counted each time it is reached (what is shared counts as often as it is met; a slice's spare places count too). A statement '..UptoSaid' is the law's where the arguments, and the package variables that the reading takes, are together of bulk at most 1048576: NARROWER than '..Said'. Prove '..Said' where nothing that the law and all that it calls make is longer than what came in: it says more and counts as full. Else prove '..UptoSaid'. A law counts once. -/
mutual
def uptoBulk {H : Type} : DataW H → Nat
  | .lit (.string bytes) => bytes.length + 1
  | .lit _ => 1
  | .nil => 1
  | .ptr d => uptoBulk d + 1
  | .slice elems spare => uptoBulkAll elems + uptoBulkAll spare + 1
  | .agg parts => uptoBulkAll parts + 1
  | .iface _ d => uptoBulk d + 1
  | .map entries => uptoBulkEntries entries + 1
  | .held _ => 1
def uptoBulkAll {H : Type} : List (DataW H) → Nat
  | [] => 0
  | d :: r => uptoBulk d + uptoBulkAll r
def uptoBulkEntries {H : Type} : List (Lit × DataW H) → Nat
  | [] => 0
  | x :: r => uptoBulkEntry x + uptoBulkEntries r
def uptoBulkEntry {H : Type} : Lit × DataW H → Nat
  | (.string bytes, d) => bytes.length + uptoBulk d + 1
  | (_, d) => uptoBulk d + 1
 end
def uptoSmall : (H : Type) → List (DataW H) → Bool := fun _ ds => decide (uptoBulkAll ds ≤ 1048576)
def OpenSpec.upto (s : _root_.Go.ChangeSpec) : _root_.Go.OpenSpec := { _root_.Go.OpenSpec.ofChange s with cond := some uptoSmall }

/-- 'laws.FnExactValueAt', WHERE WHAT IT READS IS OF BULK AT MOST 1048576: true; the input reads as it did. -/
def fnExactValueAtUptoRow : OpenClaim := { program := "ytnkkgbecdckigab", sum := "7c29cbd8e1057cad4f1e630b2a41cfebacaa16d9458fc8123c0c99ca23e15bd6", func := "loop.example/g01126/laws.FnExactValueAt", spec := "fnExactValueAt", apart := false, narrowed := true }
def FnExactValueAtUptoSaid : Prop := fnExactValueAtUptoRow.holds Try.pinned (OpenSpec.upto fnExactValueAtSpec)

/-- 'laws.FnExactExponentOf', WHERE WHAT IT READS IS OF BULK AT MOST 1048576: true; the input reads as it did. -/
def fnExactExponentOfUptoRow : OpenClaim := { program := "ytnkkgbecdckigab", sum := "7c29cbd8e1057cad4f1e630b2a41cfebacaa16d9458fc8123c0c99ca23e15bd6", func := "loop.example/g01126/laws.FnExactExponentOf", spec := "fnExactExponentOf", apart := false, narrowed := true }
def FnExactExponentOfUptoSaid : Prop := fnExactExponentOfUptoRow.holds Try.pinned (OpenSpec.upto fnExactExponentOfSpec)

/-- 'laws.FnExactProductDeterminant', WHERE WHAT IT READS IS OF BULK AT MOST 1048576: true; the input reads as it did. -/
def fnExactProductDeterminantUptoRow : OpenClaim := { program := "ytnkkgbecdckigab", sum := "7c29cbd8e1057cad4f1e630b2a41cfebacaa16d9458fc8123c0c99ca23e15bd6", func := "loop.example/g01126/laws.FnExactProductDeterminant", spec := "fnExactProductDeterminant", apart := false, narrowed := true }
def FnExactProductDeterminantUptoSaid : Prop := fnExactProductDeterminantUptoRow.holds Try.pinned (OpenSpec.upto fnExactProductDeterminantSpec)

/-- 'laws.FnExactApplyTable', WHERE WHAT IT READS IS OF BULK AT MOST 1048576: true; the input reads as it did. -/
def fnExactApplyTableUptoRow : OpenClaim := { program := "ytnkkgbecdckigab", sum := "7c29cbd8e1057cad4f1e630b2a41cfebacaa16d9458fc8123c0c99ca23e15bd6", func := "loop.example/g01126/laws.FnExactApplyTable", spec := "fnExactApplyTable", unfollowed := true, recurses := true, apart := false, narrowed := true }
def FnExactApplyTableUptoSaid : Prop := fnExactApplyTableUptoRow.holds Try.pinned (OpenSpec.upto fnExactApplyTableSpec)

/-- 'laws.FnExactJoinedSystem', WHERE WHAT IT READS IS OF BULK AT MOST 1048576: true; the input reads as it did. -/
def fnExactJoinedSystemUptoRow : OpenClaim := { program := "ytnkkgbecdckigab", sum := "7c29cbd8e1057cad4f1e630b2a41cfebacaa16d9458fc8123c0c99ca23e15bd6", func := "loop.example/g01126/laws.FnExactJoinedSystem", spec := "fnExactJoinedSystem", apart := false, narrowed := true }
def FnExactJoinedSystemUptoSaid : Prop := fnExactJoinedSystemUptoRow.holds Try.pinned (OpenSpec.upto fnExactJoinedSystemSpec)

/-- 'laws.FnExactTableAt', WHERE WHAT IT READS IS OF BULK AT MOST 1048576: true; the input reads as it did. -/
def fnExactTableAtUptoRow : OpenClaim := { program := "ytnkkgbecdckigab", sum := "7c29cbd8e1057cad4f1e630b2a41cfebacaa16d9458fc8123c0c99ca23e15bd6", func := "loop.example/g01126/laws.FnExactTableAt", spec := "fnExactTableAt", unfollowed := true, recurses := true, apart := false, narrowed := true }
def FnExactTableAtUptoSaid : Prop := fnExactTableAtUptoRow.holds Try.pinned (OpenSpec.upto fnExactTableAtSpec)

/-- 'laws.FnExactExponentTable', WHERE WHAT IT READS IS OF BULK AT MOST 1048576: true; the input reads as it did. -/
def fnExactExponentTableUptoRow : OpenClaim := { program := "ytnkkgbecdckigab", sum := "7c29cbd8e1057cad4f1e630b2a41cfebacaa16d9458fc8123c0c99ca23e15bd6", func := "loop.example/g01126/laws.FnExactExponentTable", spec := "fnExactExponentTable", unfollowed := true, recurses := true, apart := false, narrowed := true }
def FnExactExponentTableUptoSaid : Prop := fnExactExponentTableUptoRow.holds Try.pinned (OpenSpec.upto fnExactExponentTableSpec)

/-- 'laws.FnExactSumOfTable', WHERE WHAT IT READS IS OF BULK AT MOST 1048576: true; the input reads as it did. -/
def fnExactSumOfTableUptoRow : OpenClaim := { program := "ytnkkgbecdckigab", sum := "7c29cbd8e1057cad4f1e630b2a41cfebacaa16d9458fc8123c0c99ca23e15bd6", func := "loop.example/g01126/laws.FnExactSumOfTable", spec := "fnExactSumOfTable", unfollowed := true, recurses := true, apart := false, narrowed := true }
def FnExactSumOfTableUptoSaid : Prop := fnExactSumOfTableUptoRow.holds Try.pinned (OpenSpec.upto fnExactSumOfTableSpec)

end Rows
end Go.Proofs.Ytnkkgbecdckigab
