/-
  No cell of these rows narrows 'for every input' (looked for: loops, veiled, ifaces, maps, wideKeys, modest, calm, conditions, laid).
  DERIVED. THE GIVEN ROWS OF THIS SEAT. 7 by the template 'for every input the law returns true; each argument reads behind the call as it read before'; 0 by the template 'total and deterministic' (their statements: YtkohmdhjjnmfgabTotals.lean).
  GIVEN WITH THE SEED: the statements are not yours to turn. If you find one false, say at which input.
  Laid BY PROGRAM, IN A SANDBOX (cutbox-rows.mjs): the forced cells as the released guide's own fill.sh prints them over the translation f2cbf603d8fdc917… (all of the seat's roots in one cut). By AI agents, Wed Nov 11 2026. No macro, syntax, notation, axiom, sorry.
-/
import Derived.Test.YtkohmdhjjnmfgabChecked
import GoSem.Claim
import GoSem.ClaimJoined
import GoSem.ClaimMapViews
import Derived.JoinedTies
import Derived.KernelRfl
namespace Go.Proofs.Ytkohmdhjjnmfgab
/- THE CELL 'sum', in the pinned program and in every row, IS THE sha256 OF THE DUMP (.gsa) THAT YtkohmdhjjnmfgabProg.lean LOADS. Nothing in Lean hashes anything: it is a label: what it is worth is what the hold of that sum in a sandbox is worth. -/
noncomputable def Try.pinned : Pinned := { name := "ytkohmdhjjnmfgab", sum := "f2cbf603d8fdc917e18a19f7f02b1a5a72bd7ab9a09f98bf847e6f9e2e8181ca", checked := Try.checked }
namespace Rows
def none {H : Type} : Left H := { results := [], args := [] }

/-- 'laws.FnExactPermutationOf': WHATEVER THE INPUT: true; the input reads as it did. -/
def fnExactPermutationOfSpec : ChangeSpec := { name := "fnExactPermutationOf", fn := fun _ => fun
  | [d] => { results := [.lit (.bool true)], args := [d] }
  | _ => none }
def fnExactPermutationOfRow : OpenClaim := { program := "ytkohmdhjjnmfgab", sum := "f2cbf603d8fdc917e18a19f7f02b1a5a72bd7ab9a09f98bf847e6f9e2e8181ca", func := "loop.example/g01126/laws.FnExactPermutationOf", spec := "fnExactPermutationOf", unfollowed := true, recurses := true, apart := false }
def FnExactPermutationOfSaid : Prop := fnExactPermutationOfRow.holds Try.pinned (OpenSpec.ofChange fnExactPermutationOfSpec)

/-- ITS FALSE NEIGHBOUR: 'it returns false'. Refute it at one input. -/
def fnExactPermutationOfWrong : ChangeSpec := { name := "fnExactPermutationOf", fn := fun _ => fun
  | [d] => { results := [.lit (.bool false)], args := [d] }
  | _ => none }
def FnExactPermutationOfWrongFalsely : Prop := fnExactPermutationOfRow.holds Try.pinned (OpenSpec.ofChange fnExactPermutationOfWrong)

/-- 'laws.FnExactCycleOf': WHATEVER THE INPUT: true; the input reads as it did. -/
def fnExactCycleOfSpec : ChangeSpec := { name := "fnExactCycleOf", fn := fun _ => fun
  | [d] => { results := [.lit (.bool true)], args := [d] }
  | _ => none }
def fnExactCycleOfRow : OpenClaim := { program := "ytkohmdhjjnmfgab", sum := "f2cbf603d8fdc917e18a19f7f02b1a5a72bd7ab9a09f98bf847e6f9e2e8181ca", func := "loop.example/g01126/laws.FnExactCycleOf", spec := "fnExactCycleOf", unfollowed := true, recurses := true, apart := false }
def FnExactCycleOfSaid : Prop := fnExactCycleOfRow.holds Try.pinned (OpenSpec.ofChange fnExactCycleOfSpec)

/-- ITS FALSE NEIGHBOUR: 'it returns false'. Refute it at one input. -/
def fnExactCycleOfWrong : ChangeSpec := { name := "fnExactCycleOf", fn := fun _ => fun
  | [d] => { results := [.lit (.bool false)], args := [d] }
  | _ => none }
def FnExactCycleOfWrongFalsely : Prop := fnExactCycleOfRow.holds Try.pinned (OpenSpec.ofChange fnExactCycleOfWrong)

/-- 'laws.FnExactClosedToOpen': WHATEVER THE INPUT: true; the input reads as it did. -/
def fnExactClosedToOpenSpec : ChangeSpec := { name := "fnExactClosedToOpen", fn := fun _ => fun
  | [d] => { results := [.lit (.bool true)], args := [d] }
  | _ => none }
def fnExactClosedToOpenRow : OpenClaim := { program := "ytkohmdhjjnmfgab", sum := "f2cbf603d8fdc917e18a19f7f02b1a5a72bd7ab9a09f98bf847e6f9e2e8181ca", func := "loop.example/g01126/laws.FnExactClosedToOpen", spec := "fnExactClosedToOpen", unfollowed := true, recurses := true, apart := false }
def FnExactClosedToOpenSaid : Prop := fnExactClosedToOpenRow.holds Try.pinned (OpenSpec.ofChange fnExactClosedToOpenSpec)

/-- ITS FALSE NEIGHBOUR: 'it returns false'. Refute it at one input. -/
def fnExactClosedToOpenWrong : ChangeSpec := { name := "fnExactClosedToOpen", fn := fun _ => fun
  | [d] => { results := [.lit (.bool false)], args := [d] }
  | _ => none }
def FnExactClosedToOpenWrongFalsely : Prop := fnExactClosedToOpenRow.holds Try.pinned (OpenSpec.ofChange fnExactClosedToOpenWrong)

/-- 'laws.FnExactFromPermutation': WHATEVER THE INPUT: true; the input reads as it did. -/
def fnExactFromPermutationSpec : ChangeSpec := { name := "fnExactFromPermutation", fn := fun _ => fun
  | [d] => { results := [.lit (.bool true)], args := [d] }
  | _ => none }
def fnExactFromPermutationRow : OpenClaim := { program := "ytkohmdhjjnmfgab", sum := "f2cbf603d8fdc917e18a19f7f02b1a5a72bd7ab9a09f98bf847e6f9e2e8181ca", func := "loop.example/g01126/laws.FnExactFromPermutation", spec := "fnExactFromPermutation", apart := false }
def FnExactFromPermutationSaid : Prop := fnExactFromPermutationRow.holds Try.pinned (OpenSpec.ofChange fnExactFromPermutationSpec)

/-- ITS FALSE NEIGHBOUR: 'it returns false'. Refute it at one input. -/
def fnExactFromPermutationWrong : ChangeSpec := { name := "fnExactFromPermutation", fn := fun _ => fun
  | [d] => { results := [.lit (.bool false)], args := [d] }
  | _ => none }
def FnExactFromPermutationWrongFalsely : Prop := fnExactFromPermutationRow.holds Try.pinned (OpenSpec.ofChange fnExactFromPermutationWrong)

/-- 'laws.FnExactOpenToClosed': WHATEVER THE INPUT: true; the input reads as it did. -/
def fnExactOpenToClosedSpec : ChangeSpec := { name := "fnExactOpenToClosed", fn := fun _ => fun
  | [d] => { results := [.lit (.bool true)], args := [d] }
  | _ => none }
def fnExactOpenToClosedRow : OpenClaim := { program := "ytkohmdhjjnmfgab", sum := "f2cbf603d8fdc917e18a19f7f02b1a5a72bd7ab9a09f98bf847e6f9e2e8181ca", func := "loop.example/g01126/laws.FnExactOpenToClosed", spec := "fnExactOpenToClosed", apart := false }
def FnExactOpenToClosedSaid : Prop := fnExactOpenToClosedRow.holds Try.pinned (OpenSpec.ofChange fnExactOpenToClosedSpec)

/-- ITS FALSE NEIGHBOUR: 'it returns false'. Refute it at one input. -/
def fnExactOpenToClosedWrong : ChangeSpec := { name := "fnExactOpenToClosed", fn := fun _ => fun
  | [d] => { results := [.lit (.bool false)], args := [d] }
  | _ => none }
def FnExactOpenToClosedWrongFalsely : Prop := fnExactOpenToClosedRow.holds Try.pinned (OpenSpec.ofChange fnExactOpenToClosedWrong)

/-- 'laws.FnExactOpenPermutations': WHATEVER THE INPUT: true; the input reads as it did. -/
def fnExactOpenPermutationsSpec : ChangeSpec := { name := "fnExactOpenPermutations", fn := fun _ => fun
  | [d] => { results := [.lit (.bool true)], args := [d] }
  | _ => none }
def fnExactOpenPermutationsRow : OpenClaim := { program := "ytkohmdhjjnmfgab", sum := "f2cbf603d8fdc917e18a19f7f02b1a5a72bd7ab9a09f98bf847e6f9e2e8181ca", func := "loop.example/g01126/laws.FnExactOpenPermutations", spec := "fnExactOpenPermutations", unfollowed := true, recurses := true, apart := false }
def FnExactOpenPermutationsSaid : Prop := fnExactOpenPermutationsRow.holds Try.pinned (OpenSpec.ofChange fnExactOpenPermutationsSpec)

/-- ITS FALSE NEIGHBOUR: 'it returns false'. Refute it at one input. -/
def fnExactOpenPermutationsWrong : ChangeSpec := { name := "fnExactOpenPermutations", fn := fun _ => fun
  | [d] => { results := [.lit (.bool false)], args := [d] }
  | _ => none }
def FnExactOpenPermutationsWrongFalsely : Prop := fnExactOpenPermutationsRow.holds Try.pinned (OpenSpec.ofChange fnExactOpenPermutationsWrong)

/-- 'laws.FnExactCountOpen': WHATEVER THE INPUT: true; the input reads as it did. -/
def fnExactCountOpenSpec : ChangeSpec := { name := "fnExactCountOpen", fn := fun _ => fun
  | [d] => { results := [.lit (.bool true)], args := [d] }
  | _ => none }
def fnExactCountOpenRow : OpenClaim := { program := "ytkohmdhjjnmfgab", sum := "f2cbf603d8fdc917e18a19f7f02b1a5a72bd7ab9a09f98bf847e6f9e2e8181ca", func := "loop.example/g01126/laws.FnExactCountOpen", spec := "fnExactCountOpen", unfollowed := true, recurses := true, apart := false }
def FnExactCountOpenSaid : Prop := fnExactCountOpenRow.holds Try.pinned (OpenSpec.ofChange fnExactCountOpenSpec)

/-- ITS FALSE NEIGHBOUR: 'it returns false'. Refute it at one input. -/
def fnExactCountOpenWrong : ChangeSpec := { name := "fnExactCountOpen", fn := fun _ => fun
  | [d] => { results := [.lit (.bool false)], args := [d] }
  | _ => none }
def FnExactCountOpenWrongFalsely : Prop := fnExactCountOpenRow.holds Try.pinned (OpenSpec.ofChange fnExactCountOpenWrong)

/- THE SECOND FORM. 'bulk': how many values and letters a reading holds, each counted each time it is reached (what is shared counts as often as it is met; a slice's spare places count too). A statement '..UptoSaid' is the law's where the arguments, and the package variables that the reading takes, are together of bulk at most 1048576: NARROWER than '..Said'. Prove '..Said' where nothing that the law and all that it calls make is longer than what came in: it says more and counts as full. Else prove '..UptoSaid'. A law counts once. -/
mutual
def uptoBulk {H : Type} : DataW H → Nat
  | .lit (.string bytes) => bytes.length + 1
  | .lit _ => 1
  | .nil => 1
  | .ptr d => uptoBulk d + 1
  | .slice elems spare => uptoBulkAll elems + uptoBulkAll spare + 1
  | .agg parts => uptoBulkAll parts + 1
  | .iface _ d => uptoBulk d + 1
  | .map entries => uptoBulkEntries entries + 1
  | .held _ => 1
def uptoBulkAll {H : Type} : List (DataW H) → Nat
  | [] => 0
  | d :: r => uptoBulk d + uptoBulkAll r
def uptoBulkEntries {H : Type} : List (Lit × DataW H) → Nat
  | [] => 0
  | x :: r => uptoBulkEntry x + uptoBulkEntries r
def uptoBulkEntry {H : Type} : Lit × DataW H → Nat
  | (.string bytes, d) => bytes.length + uptoBulk d + 1
  | (_, d) => uptoBulk d + 1
 end
def uptoSmall : (H : Type) → List (DataW H) → Bool := fun _ ds => decide (uptoBulkAll ds ≤ 1048576)
def OpenSpec.upto (s : _root_.Go.ChangeSpec) : _root_.Go.OpenSpec := { _root_.Go.OpenSpec.ofChange s with cond := some uptoSmall }

/-- 'laws.FnExactPermutationOf', WHERE WHAT IT READS IS OF BULK AT MOST 1048576: true; the input reads as it did. -/
def fnExactPermutationOfUptoRow : OpenClaim := { program := "ytkohmdhjjnmfgab", sum := "f2cbf603d8fdc917e18a19f7f02b1a5a72bd7ab9a09f98bf847e6f9e2e8181ca", func := "loop.example/g01126/laws.FnExactPermutationOf", spec := "fnExactPermutationOf", unfollowed := true, recurses := true, apart := false, narrowed := true }
def FnExactPermutationOfUptoSaid : Prop := fnExactPermutationOfUptoRow.holds Try.pinned (OpenSpec.upto fnExactPermutationOfSpec)

/-- 'laws.FnExactCycleOf', WHERE WHAT IT READS IS OF BULK AT MOST 1048576: true; the input reads as it did. -/
def fnExactCycleOfUptoRow : OpenClaim := { program := "ytkohmdhjjnmfgab", sum := "f2cbf603d8fdc917e18a19f7f02b1a5a72bd7ab9a09f98bf847e6f9e2e8181ca", func := "loop.example/g01126/laws.FnExactCycleOf", spec := "fnExactCycleOf", unfollowed := true, recurses := true, apart := false, narrowed := true }
def FnExactCycleOfUptoSaid : Prop := fnExactCycleOfUptoRow.holds Try.pinned (OpenSpec.upto fnExactCycleOfSpec)

/-- 'laws.FnExactClosedToOpen', WHERE WHAT IT READS IS OF BULK AT MOST 1048576: true; the input reads as it did. -/
def fnExactClosedToOpenUptoRow : OpenClaim := { program := "ytkohmdhjjnmfgab", sum := "f2cbf603d8fdc917e18a19f7f02b1a5a72bd7ab9a09f98bf847e6f9e2e8181ca", func := "loop.example/g01126/laws.FnExactClosedToOpen", spec := "fnExactClosedToOpen", unfollowed := true, recurses := true, apart := false, narrowed := true }
def FnExactClosedToOpenUptoSaid : Prop := fnExactClosedToOpenUptoRow.holds Try.pinned (OpenSpec.upto fnExactClosedToOpenSpec)

/-- 'laws.FnExactFromPermutation', WHERE WHAT IT READS IS OF BULK AT MOST 1048576: true; the input reads as it did. -/
def fnExactFromPermutationUptoRow : OpenClaim := { program := "ytkohmdhjjnmfgab", sum := "f2cbf603d8fdc917e18a19f7f02b1a5a72bd7ab9a09f98bf847e6f9e2e8181ca", func := "loop.example/g01126/laws.FnExactFromPermutation", spec := "fnExactFromPermutation", apart := false, narrowed := true }
def FnExactFromPermutationUptoSaid : Prop := fnExactFromPermutationUptoRow.holds Try.pinned (OpenSpec.upto fnExactFromPermutationSpec)

/-- 'laws.FnExactOpenToClosed', WHERE WHAT IT READS IS OF BULK AT MOST 1048576: true; the input reads as it did. -/
def fnExactOpenToClosedUptoRow : OpenClaim := { program := "ytkohmdhjjnmfgab", sum := "f2cbf603d8fdc917e18a19f7f02b1a5a72bd7ab9a09f98bf847e6f9e2e8181ca", func := "loop.example/g01126/laws.FnExactOpenToClosed", spec := "fnExactOpenToClosed", apart := false, narrowed := true }
def FnExactOpenToClosedUptoSaid : Prop := fnExactOpenToClosedUptoRow.holds Try.pinned (OpenSpec.upto fnExactOpenToClosedSpec)

/-- 'laws.FnExactOpenPermutations', WHERE WHAT IT READS IS OF BULK AT MOST 1048576: true; the input reads as it did. -/
def fnExactOpenPermutationsUptoRow : OpenClaim := { program := "ytkohmdhjjnmfgab", sum := "f2cbf603d8fdc917e18a19f7f02b1a5a72bd7ab9a09f98bf847e6f9e2e8181ca", func := "loop.example/g01126/laws.FnExactOpenPermutations", spec := "fnExactOpenPermutations", unfollowed := true, recurses := true, apart := false, narrowed := true }
def FnExactOpenPermutationsUptoSaid : Prop := fnExactOpenPermutationsUptoRow.holds Try.pinned (OpenSpec.upto fnExactOpenPermutationsSpec)

/-- 'laws.FnExactCountOpen', WHERE WHAT IT READS IS OF BULK AT MOST 1048576: true; the input reads as it did. -/
def fnExactCountOpenUptoRow : OpenClaim := { program := "ytkohmdhjjnmfgab", sum := "f2cbf603d8fdc917e18a19f7f02b1a5a72bd7ab9a09f98bf847e6f9e2e8181ca", func := "loop.example/g01126/laws.FnExactCountOpen", spec := "fnExactCountOpen", unfollowed := true, recurses := true, apart := false, narrowed := true }
def FnExactCountOpenUptoSaid : Prop := fnExactCountOpenUptoRow.holds Try.pinned (OpenSpec.upto fnExactCountOpenSpec)

end Rows
end Go.Proofs.Ytkohmdhjjnmfgab
