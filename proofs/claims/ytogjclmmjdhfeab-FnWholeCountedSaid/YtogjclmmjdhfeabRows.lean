/-
  No cell of these rows narrows 'for every input' (looked for: loops, veiled, ifaces, maps, wideKeys, modest, calm, conditions, laid).
  DERIVED. THE GIVEN ROWS OF THIS SEAT. 4 by the template 'for every input the law returns true; each argument reads behind the call as it read before'; 0 by the template 'total and deterministic' (their statements: YtogjclmmjdhfeabTotals.lean).
  GIVEN WITH THE SEED: the statements are not yours to turn. If you find one false, say at which input.
  Laid BY PROGRAM, IN A SANDBOX (cutbox-rows.mjs): the forced cells as the released guide's own fill.sh prints them over the translation 09af15fec3a7c042… (all of the seat's roots in one cut). By AI agents, Wed Nov 11 2026. No macro, syntax, notation, axiom, sorry.
-/
import Derived.Test.YtogjclmmjdhfeabChecked
import GoSem.Claim
import GoSem.ClaimJoined
import GoSem.ClaimMapViews
import Derived.JoinedTies
import Derived.KernelRfl
namespace Go.Proofs.Ytogjclmmjdhfeab
/- THE CELL 'sum', in the pinned program and in every row, IS THE sha256 OF THE DUMP (.gsa) THAT YtogjclmmjdhfeabProg.lean LOADS. Nothing in Lean hashes anything: it is a label: what it is worth is what the hold of that sum in a sandbox is worth. -/
noncomputable def Try.pinned : Pinned := { name := "ytogjclmmjdhfeab", sum := "09af15fec3a7c0422aa0f3398be9184bbc346b947bb996cf624d1b405e7c574b", checked := Try.checked }
namespace Rows
def none {H : Type} : Left H := { results := [], args := [] }

/-- 'laws.FnStepsAreStates': WHATEVER THE INPUT: true; the input reads as it did. -/
def fnStepsAreStatesSpec : ChangeSpec := { name := "fnStepsAreStates", fn := fun _ => fun
  | [d1, d2] => { results := [.lit (.bool true)], args := [d1, d2] }
  | _ => none }
def fnStepsAreStatesRow : OpenClaim := { program := "ytogjclmmjdhfeab", sum := "09af15fec3a7c0422aa0f3398be9184bbc346b947bb996cf624d1b405e7c574b", func := "loop.example/g01126/laws.FnStepsAreStates", spec := "fnStepsAreStates", inPlace := ["internal/bytealg.IndexByteString", "internal/bytealg.IndexString"], unfollowed := true, recurses := true, named := ["internal/bytealg.MaxLen"], apart := false }
def FnStepsAreStatesSaid : Prop := fnStepsAreStatesRow.holds Try.pinned (OpenSpec.ofChange fnStepsAreStatesSpec)

/-- ITS FALSE NEIGHBOUR: 'it returns false'. Refute it at one input. -/
def fnStepsAreStatesWrong : ChangeSpec := { name := "fnStepsAreStates", fn := fun _ => fun
  | [d1, d2] => { results := [.lit (.bool false)], args := [d1, d2] }
  | _ => none }
def FnStepsAreStatesWrongFalsely : Prop := fnStepsAreStatesRow.holds Try.pinned (OpenSpec.ofChange fnStepsAreStatesWrong)

/-- 'laws.FnSeaweedsIndexed': WHATEVER THE INPUT: true; the input reads as it did. -/
def fnSeaweedsIndexedSpec : ChangeSpec := { name := "fnSeaweedsIndexed", fn := fun _ => fun
  | [d1, d2] => { results := [.lit (.bool true)], args := [d1, d2] }
  | _ => none }
def fnSeaweedsIndexedRow : OpenClaim := { program := "ytogjclmmjdhfeab", sum := "09af15fec3a7c0422aa0f3398be9184bbc346b947bb996cf624d1b405e7c574b", func := "loop.example/g01126/laws.FnSeaweedsIndexed", spec := "fnSeaweedsIndexed", unfollowed := true, recurses := true, apart := false }
def FnSeaweedsIndexedSaid : Prop := fnSeaweedsIndexedRow.holds Try.pinned (OpenSpec.ofChange fnSeaweedsIndexedSpec)

/-- ITS FALSE NEIGHBOUR: 'it returns false'. Refute it at one input. -/
def fnSeaweedsIndexedWrong : ChangeSpec := { name := "fnSeaweedsIndexed", fn := fun _ => fun
  | [d1, d2] => { results := [.lit (.bool false)], args := [d1, d2] }
  | _ => none }
def FnSeaweedsIndexedWrongFalsely : Prop := fnSeaweedsIndexedRow.holds Try.pinned (OpenSpec.ofChange fnSeaweedsIndexedWrong)

/-- 'laws.FnCutsAndInserts': WHATEVER THE INPUT: true; the input reads as it did. -/
def fnCutsAndInsertsSpec : ChangeSpec := { name := "fnCutsAndInserts", fn := fun _ => fun
  | [d1, d2] => { results := [.lit (.bool true)], args := [d1, d2] }
  | _ => none }
def fnCutsAndInsertsRow : OpenClaim := { program := "ytogjclmmjdhfeab", sum := "09af15fec3a7c0422aa0f3398be9184bbc346b947bb996cf624d1b405e7c574b", func := "loop.example/g01126/laws.FnCutsAndInserts", spec := "fnCutsAndInserts", unfollowed := true, recurses := true, apart := false }
def FnCutsAndInsertsSaid : Prop := fnCutsAndInsertsRow.holds Try.pinned (OpenSpec.ofChange fnCutsAndInsertsSpec)

/-- ITS FALSE NEIGHBOUR: 'it returns false'. Refute it at one input. -/
def fnCutsAndInsertsWrong : ChangeSpec := { name := "fnCutsAndInserts", fn := fun _ => fun
  | [d1, d2] => { results := [.lit (.bool false)], args := [d1, d2] }
  | _ => none }
def FnCutsAndInsertsWrongFalsely : Prop := fnCutsAndInsertsRow.holds Try.pinned (OpenSpec.ofChange fnCutsAndInsertsWrong)

/-- 'laws.FnWholeCounted': WHATEVER THE INPUT: true; the input reads as it did. -/
def fnWholeCountedSpec : ChangeSpec := { name := "fnWholeCounted", fn := fun _ => fun
  | [d1, d2] => { results := [.lit (.bool true)], args := [d1, d2] }
  | _ => none }
def fnWholeCountedRow : OpenClaim := { program := "ytogjclmmjdhfeab", sum := "09af15fec3a7c0422aa0f3398be9184bbc346b947bb996cf624d1b405e7c574b", func := "loop.example/g01126/laws.FnWholeCounted", spec := "fnWholeCounted", unfollowed := true, recurses := true, apart := false }
def FnWholeCountedSaid : Prop := fnWholeCountedRow.holds Try.pinned (OpenSpec.ofChange fnWholeCountedSpec)

/-- ITS FALSE NEIGHBOUR: 'it returns false'. Refute it at one input. -/
def fnWholeCountedWrong : ChangeSpec := { name := "fnWholeCounted", fn := fun _ => fun
  | [d1, d2] => { results := [.lit (.bool false)], args := [d1, d2] }
  | _ => none }
def FnWholeCountedWrongFalsely : Prop := fnWholeCountedRow.holds Try.pinned (OpenSpec.ofChange fnWholeCountedWrong)

/- THE SECOND FORM. 'bulk': how many values and letters a reading holds, each counted each time it is reached (what is shared counts as often as it is met; a slice's spare places count too). A statement '..UptoSaid' is the law's where the arguments, and the package variables that the reading takes, are together of bulk at most 1048576: NARROWER than '..Said'. Prove '..Said' where nothing that the law and all that it calls make is longer than what came in: it says more and counts as full. Else prove '..UptoSaid'. A law counts once. -/
mutual
def uptoBulk {H : Type} : DataW H → Nat
  | .lit (.string bytes) => bytes.length + 1
  | .lit _ => 1
  | .nil => 1
  | .ptr d => uptoBulk d + 1
  | .slice elems spare => uptoBulkAll elems + uptoBulkAll spare + 1
  | .agg parts => uptoBulkAll parts + 1
  | .iface _ d => uptoBulk d + 1
  | .map entries => uptoBulkEntries entries + 1
  | .held _ => 1
def uptoBulkAll {H : Type} : List (DataW H) → Nat
  | [] => 0
  | d :: r => uptoBulk d + uptoBulkAll r
def uptoBulkEntries {H : Type} : List (Lit × DataW H) → Nat
  | [] => 0
  | x :: r => uptoBulkEntry x + uptoBulkEntries r
def uptoBulkEntry {H : Type} : Lit × DataW H → Nat
  | (.string bytes, d) => bytes.length + uptoBulk d + 1
  | (_, d) => uptoBulk d + 1
 end
def uptoSmall : (H : Type) → List (DataW H) → Bool := fun _ ds => decide (uptoBulkAll ds ≤ 1048576)
def OpenSpec.upto (s : _root_.Go.ChangeSpec) : _root_.Go.OpenSpec := { _root_.Go.OpenSpec.ofChange s with cond := some uptoSmall }

/-- 'laws.FnStepsAreStates', WHERE WHAT IT READS IS OF BULK AT MOST 1048576: true; the input reads as it did. -/
def fnStepsAreStatesUptoRow : OpenClaim := { program := "ytogjclmmjdhfeab", sum := "09af15fec3a7c0422aa0f3398be9184bbc346b947bb996cf624d1b405e7c574b", func := "loop.example/g01126/laws.FnStepsAreStates", spec := "fnStepsAreStates", inPlace := ["internal/bytealg.IndexByteString", "internal/bytealg.IndexString"], unfollowed := true, recurses := true, named := ["internal/bytealg.MaxLen"], apart := false, narrowed := true }
def FnStepsAreStatesUptoSaid : Prop := fnStepsAreStatesUptoRow.holds Try.pinned (OpenSpec.upto fnStepsAreStatesSpec)

/-- 'laws.FnSeaweedsIndexed', WHERE WHAT IT READS IS OF BULK AT MOST 1048576: true; the input reads as it did. -/
def fnSeaweedsIndexedUptoRow : OpenClaim := { program := "ytogjclmmjdhfeab", sum := "09af15fec3a7c0422aa0f3398be9184bbc346b947bb996cf624d1b405e7c574b", func := "loop.example/g01126/laws.FnSeaweedsIndexed", spec := "fnSeaweedsIndexed", unfollowed := true, recurses := true, apart := false, narrowed := true }
def FnSeaweedsIndexedUptoSaid : Prop := fnSeaweedsIndexedUptoRow.holds Try.pinned (OpenSpec.upto fnSeaweedsIndexedSpec)

/-- 'laws.FnCutsAndInserts', WHERE WHAT IT READS IS OF BULK AT MOST 1048576: true; the input reads as it did. -/
def fnCutsAndInsertsUptoRow : OpenClaim := { program := "ytogjclmmjdhfeab", sum := "09af15fec3a7c0422aa0f3398be9184bbc346b947bb996cf624d1b405e7c574b", func := "loop.example/g01126/laws.FnCutsAndInserts", spec := "fnCutsAndInserts", unfollowed := true, recurses := true, apart := false, narrowed := true }
def FnCutsAndInsertsUptoSaid : Prop := fnCutsAndInsertsUptoRow.holds Try.pinned (OpenSpec.upto fnCutsAndInsertsSpec)

/-- 'laws.FnWholeCounted', WHERE WHAT IT READS IS OF BULK AT MOST 1048576: true; the input reads as it did. -/
def fnWholeCountedUptoRow : OpenClaim := { program := "ytogjclmmjdhfeab", sum := "09af15fec3a7c0422aa0f3398be9184bbc346b947bb996cf624d1b405e7c574b", func := "loop.example/g01126/laws.FnWholeCounted", spec := "fnWholeCounted", unfollowed := true, recurses := true, apart := false, narrowed := true }
def FnWholeCountedUptoSaid : Prop := fnWholeCountedUptoRow.holds Try.pinned (OpenSpec.upto fnWholeCountedSpec)

end Rows
end Go.Proofs.Ytogjclmmjdhfeab
