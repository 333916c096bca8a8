/-
  No cell of these rows narrows 'for every input' (looked for: loops, veiled, ifaces, maps, wideKeys, modest, calm, conditions, laid).
  DERIVED. THE GIVEN ROWS OF THIS SEAT. 9 by the template 'for every input the law returns true; each argument reads behind the call as it read before'; 0 by the template 'total and deterministic' (their statements: YtllhdmpnjcemkaaTotals.lean).
  GIVEN WITH THE SEED: the statements are not yours to turn. If you find one false, say at which input.
  Laid BY PROGRAM, IN A SANDBOX (cutbox-rows.mjs): the forced cells as the released guide's own fill.sh prints them over the translation f3574b4252eb9f30… (all of the seat's roots in one cut). By AI agents, Wed Nov 11 2026. No macro, syntax, notation, axiom, sorry.
-/
import Derived.Test.YtllhdmpnjcemkaaChecked
import GoSem.Claim
import GoSem.ClaimJoined
import GoSem.ClaimMapViews
import Derived.JoinedTies
import Derived.KernelRfl
namespace Go.Proofs.Ytllhdmpnjcemkaa
/- THE CELL 'sum', in the pinned program and in every row, IS THE sha256 OF THE DUMP (.gsa) THAT YtllhdmpnjcemkaaProg.lean LOADS. Nothing in Lean hashes anything: it is a label: what it is worth is what the hold of that sum in a sandbox is worth. -/
noncomputable def Try.pinned : Pinned := { name := "ytllhdmpnjcemkaa", sum := "f3574b4252eb9f305130578bd65c23b3b0ab4d46cd6c879d96cbabbd2d0e8563", checked := Try.checked }
namespace Rows
def none {H : Type} : Left H := { results := [], args := [] }

/-- 'laws.FnExactIsSeaweed': WHATEVER THE INPUT: true; the input reads as it did. -/
def fnExactIsSeaweedSpec : ChangeSpec := { name := "fnExactIsSeaweed", fn := fun _ => fun
  | [d] => { results := [.lit (.bool true)], args := [d] }
  | _ => none }
def fnExactIsSeaweedRow : OpenClaim := { program := "ytllhdmpnjcemkaa", sum := "f3574b4252eb9f305130578bd65c23b3b0ab4d46cd6c879d96cbabbd2d0e8563", func := "loop.example/g01126/laws.FnExactIsSeaweed", spec := "fnExactIsSeaweed", apart := false }
def FnExactIsSeaweedSaid : Prop := fnExactIsSeaweedRow.holds Try.pinned (OpenSpec.ofChange fnExactIsSeaweedSpec)

/-- ITS FALSE NEIGHBOUR: 'it returns false'. Refute it at one input. -/
def fnExactIsSeaweedWrong : ChangeSpec := { name := "fnExactIsSeaweed", fn := fun _ => fun
  | [d] => { results := [.lit (.bool false)], args := [d] }
  | _ => none }
def FnExactIsSeaweedWrongFalsely : Prop := fnExactIsSeaweedRow.holds Try.pinned (OpenSpec.ofChange fnExactIsSeaweedWrong)

/-- 'laws.FnExactArcsOf': WHATEVER THE INPUT: true; the input reads as it did. -/
def fnExactArcsOfSpec : ChangeSpec := { name := "fnExactArcsOf", fn := fun _ => fun
  | [d] => { results := [.lit (.bool true)], args := [d] }
  | _ => none }
def fnExactArcsOfRow : OpenClaim := { program := "ytllhdmpnjcemkaa", sum := "f3574b4252eb9f305130578bd65c23b3b0ab4d46cd6c879d96cbabbd2d0e8563", func := "loop.example/g01126/laws.FnExactArcsOf", spec := "fnExactArcsOf", apart := false }
def FnExactArcsOfSaid : Prop := fnExactArcsOfRow.holds Try.pinned (OpenSpec.ofChange fnExactArcsOfSpec)

/-- ITS FALSE NEIGHBOUR: 'it returns false'. Refute it at one input. -/
def fnExactArcsOfWrong : ChangeSpec := { name := "fnExactArcsOf", fn := fun _ => fun
  | [d] => { results := [.lit (.bool false)], args := [d] }
  | _ => none }
def FnExactArcsOfWrongFalsely : Prop := fnExactArcsOfRow.holds Try.pinned (OpenSpec.ofChange fnExactArcsOfWrong)

/-- 'laws.FnExactFlipSeaweed': WHATEVER THE INPUT: true; the input reads as it did. -/
def fnExactFlipSeaweedSpec : ChangeSpec := { name := "fnExactFlipSeaweed", fn := fun _ => fun
  | [d] => { results := [.lit (.bool true)], args := [d] }
  | _ => none }
def fnExactFlipSeaweedRow : OpenClaim := { program := "ytllhdmpnjcemkaa", sum := "f3574b4252eb9f305130578bd65c23b3b0ab4d46cd6c879d96cbabbd2d0e8563", func := "loop.example/g01126/laws.FnExactFlipSeaweed", spec := "fnExactFlipSeaweed", apart := false }
def FnExactFlipSeaweedSaid : Prop := fnExactFlipSeaweedRow.holds Try.pinned (OpenSpec.ofChange fnExactFlipSeaweedSpec)

/-- ITS FALSE NEIGHBOUR: 'it returns false'. Refute it at one input. -/
def fnExactFlipSeaweedWrong : ChangeSpec := { name := "fnExactFlipSeaweed", fn := fun _ => fun
  | [d] => { results := [.lit (.bool false)], args := [d] }
  | _ => none }
def FnExactFlipSeaweedWrongFalsely : Prop := fnExactFlipSeaweedRow.holds Try.pinned (OpenSpec.ofChange fnExactFlipSeaweedWrong)

/-- 'laws.FnExactMirrorSeaweed': WHATEVER THE INPUT: true; the input reads as it did. -/
def fnExactMirrorSeaweedSpec : ChangeSpec := { name := "fnExactMirrorSeaweed", fn := fun _ => fun
  | [d] => { results := [.lit (.bool true)], args := [d] }
  | _ => none }
def fnExactMirrorSeaweedRow : OpenClaim := { program := "ytllhdmpnjcemkaa", sum := "f3574b4252eb9f305130578bd65c23b3b0ab4d46cd6c879d96cbabbd2d0e8563", func := "loop.example/g01126/laws.FnExactMirrorSeaweed", spec := "fnExactMirrorSeaweed", apart := false }
def FnExactMirrorSeaweedSaid : Prop := fnExactMirrorSeaweedRow.holds Try.pinned (OpenSpec.ofChange fnExactMirrorSeaweedSpec)

/-- ITS FALSE NEIGHBOUR: 'it returns false'. Refute it at one input. -/
def fnExactMirrorSeaweedWrong : ChangeSpec := { name := "fnExactMirrorSeaweed", fn := fun _ => fun
  | [d] => { results := [.lit (.bool false)], args := [d] }
  | _ => none }
def FnExactMirrorSeaweedWrongFalsely : Prop := fnExactMirrorSeaweedRow.holds Try.pinned (OpenSpec.ofChange fnExactMirrorSeaweedWrong)

/-- 'laws.FnExactJoinSeaweeds': WHATEVER THE INPUT: true; the input reads as it did. -/
def fnExactJoinSeaweedsSpec : ChangeSpec := { name := "fnExactJoinSeaweeds", fn := fun _ => fun
  | [d1, d2] => { results := [.lit (.bool true)], args := [d1, d2] }
  | _ => none }
def fnExactJoinSeaweedsRow : OpenClaim := { program := "ytllhdmpnjcemkaa", sum := "f3574b4252eb9f305130578bd65c23b3b0ab4d46cd6c879d96cbabbd2d0e8563", func := "loop.example/g01126/laws.FnExactJoinSeaweeds", spec := "fnExactJoinSeaweeds", apart := false }
def FnExactJoinSeaweedsSaid : Prop := fnExactJoinSeaweedsRow.holds Try.pinned (OpenSpec.ofChange fnExactJoinSeaweedsSpec)

/-- ITS FALSE NEIGHBOUR: 'it returns false'. Refute it at one input. -/
def fnExactJoinSeaweedsWrong : ChangeSpec := { name := "fnExactJoinSeaweeds", fn := fun _ => fun
  | [d1, d2] => { results := [.lit (.bool false)], args := [d1, d2] }
  | _ => none }
def FnExactJoinSeaweedsWrongFalsely : Prop := fnExactJoinSeaweedsRow.holds Try.pinned (OpenSpec.ofChange fnExactJoinSeaweedsWrong)

/-- 'laws.FnExactIndexOfTwo': WHATEVER THE INPUT: true; the input reads as it did. -/
def fnExactIndexOfTwoSpec : ChangeSpec := { name := "fnExactIndexOfTwo", fn := fun _ => fun
  | [d1, d2] => { results := [.lit (.bool true)], args := [d1, d2] }
  | _ => none }
def fnExactIndexOfTwoRow : OpenClaim := { program := "ytllhdmpnjcemkaa", sum := "f3574b4252eb9f305130578bd65c23b3b0ab4d46cd6c879d96cbabbd2d0e8563", func := "loop.example/g01126/laws.FnExactIndexOfTwo", spec := "fnExactIndexOfTwo", recurses := true, apart := false }
def FnExactIndexOfTwoSaid : Prop := fnExactIndexOfTwoRow.holds Try.pinned (OpenSpec.ofChange fnExactIndexOfTwoSpec)

/-- ITS FALSE NEIGHBOUR: 'it returns false'. Refute it at one input. -/
def fnExactIndexOfTwoWrong : ChangeSpec := { name := "fnExactIndexOfTwo", fn := fun _ => fun
  | [d1, d2] => { results := [.lit (.bool false)], args := [d1, d2] }
  | _ => none }
def FnExactIndexOfTwoWrongFalsely : Prop := fnExactIndexOfTwoRow.holds Try.pinned (OpenSpec.ofChange fnExactIndexOfTwoWrong)

/-- 'laws.FnExactIndexOfThree': WHATEVER THE INPUT: true; the input reads as it did. -/
def fnExactIndexOfThreeSpec : ChangeSpec := { name := "fnExactIndexOfThree", fn := fun _ => fun
  | [d1, d2, d3] => { results := [.lit (.bool true)], args := [d1, d2, d3] }
  | _ => none }
def fnExactIndexOfThreeRow : OpenClaim := { program := "ytllhdmpnjcemkaa", sum := "f3574b4252eb9f305130578bd65c23b3b0ab4d46cd6c879d96cbabbd2d0e8563", func := "loop.example/g01126/laws.FnExactIndexOfThree", spec := "fnExactIndexOfThree", recurses := true, apart := false }
def FnExactIndexOfThreeSaid : Prop := fnExactIndexOfThreeRow.holds Try.pinned (OpenSpec.ofChange fnExactIndexOfThreeSpec)

/-- ITS FALSE NEIGHBOUR: 'it returns false'. Refute it at one input. -/
def fnExactIndexOfThreeWrong : ChangeSpec := { name := "fnExactIndexOfThree", fn := fun _ => fun
  | [d1, d2, d3] => { results := [.lit (.bool false)], args := [d1, d2, d3] }
  | _ => none }
def FnExactIndexOfThreeWrongFalsely : Prop := fnExactIndexOfThreeRow.holds Try.pinned (OpenSpec.ofChange fnExactIndexOfThreeWrong)

/-- 'laws.FnExactWindStep': WHATEVER THE INPUT: true; the input reads as it did. -/
def fnExactWindStepSpec : ChangeSpec := { name := "fnExactWindStep", fn := fun _ => fun
  | [d] => { results := [.lit (.bool true)], args := [d] }
  | _ => none }
def fnExactWindStepRow : OpenClaim := { program := "ytllhdmpnjcemkaa", sum := "f3574b4252eb9f305130578bd65c23b3b0ab4d46cd6c879d96cbabbd2d0e8563", func := "loop.example/g01126/laws.FnExactWindStep", spec := "fnExactWindStep", unfollowed := true, recurses := true, apart := false }
def FnExactWindStepSaid : Prop := fnExactWindStepRow.holds Try.pinned (OpenSpec.ofChange fnExactWindStepSpec)

/-- ITS FALSE NEIGHBOUR: 'it returns false'. Refute it at one input. -/
def fnExactWindStepWrong : ChangeSpec := { name := "fnExactWindStep", fn := fun _ => fun
  | [d] => { results := [.lit (.bool false)], args := [d] }
  | _ => none }
def FnExactWindStepWrongFalsely : Prop := fnExactWindStepRow.holds Try.pinned (OpenSpec.ofChange fnExactWindStepWrong)

/-- 'laws.FnExactWindWord': WHATEVER THE INPUT: true; the input reads as it did. -/
def fnExactWindWordSpec : ChangeSpec := { name := "fnExactWindWord", fn := fun _ => fun
  | [d] => { results := [.lit (.bool true)], args := [d] }
  | _ => none }
def fnExactWindWordRow : OpenClaim := { program := "ytllhdmpnjcemkaa", sum := "f3574b4252eb9f305130578bd65c23b3b0ab4d46cd6c879d96cbabbd2d0e8563", func := "loop.example/g01126/laws.FnExactWindWord", spec := "fnExactWindWord", unfollowed := true, recurses := true, apart := false }
def FnExactWindWordSaid : Prop := fnExactWindWordRow.holds Try.pinned (OpenSpec.ofChange fnExactWindWordSpec)

/-- ITS FALSE NEIGHBOUR: 'it returns false'. Refute it at one input. -/
def fnExactWindWordWrong : ChangeSpec := { name := "fnExactWindWord", fn := fun _ => fun
  | [d] => { results := [.lit (.bool false)], args := [d] }
  | _ => none }
def FnExactWindWordWrongFalsely : Prop := fnExactWindWordRow.holds Try.pinned (OpenSpec.ofChange fnExactWindWordWrong)

/- THE SECOND FORM. 'bulk': how many values and letters a reading holds, each counted each time it is reached (what is shared counts as often as it is met; a slice's spare places count too). A statement '..UptoSaid' is the law's where the arguments, and the package variables that the reading takes, are together of bulk at most 1048576: NARROWER than '..Said'. Prove '..Said' where nothing that the law and all that it calls make is longer than what came in: it says more and counts as full. Else prove '..UptoSaid'. A law counts once. -/
mutual
def uptoBulk {H : Type} : DataW H → Nat
  | .lit (.string bytes) => bytes.length + 1
  | .lit _ => 1
  | .nil => 1
  | .ptr d => uptoBulk d + 1
  | .slice elems spare => uptoBulkAll elems + uptoBulkAll spare + 1
  | .agg parts => uptoBulkAll parts + 1
  | .iface _ d => uptoBulk d + 1
  | .map entries => uptoBulkEntries entries + 1
  | .held _ => 1
def uptoBulkAll {H : Type} : List (DataW H) → Nat
  | [] => 0
  | d :: r => uptoBulk d + uptoBulkAll r
def uptoBulkEntries {H : Type} : List (Lit × DataW H) → Nat
  | [] => 0
  | x :: r => uptoBulkEntry x + uptoBulkEntries r
def uptoBulkEntry {H : Type} : Lit × DataW H → Nat
  | (.string bytes, d) => bytes.length + uptoBulk d + 1
  | (_, d) => uptoBulk d + 1
 end
def uptoSmall : (H : Type) → List (DataW H) → Bool := fun _ ds => decide (uptoBulkAll ds ≤ 1048576)
def OpenSpec.upto (s : _root_.Go.ChangeSpec) : _root_.Go.OpenSpec := { _root_.Go.OpenSpec.ofChange s with cond := some uptoSmall }

/-- 'laws.FnExactIsSeaweed', WHERE WHAT IT READS IS OF BULK AT MOST 1048576: true; the input reads as it did. -/
def fnExactIsSeaweedUptoRow : OpenClaim := { program := "ytllhdmpnjcemkaa", sum := "f3574b4252eb9f305130578bd65c23b3b0ab4d46cd6c879d96cbabbd2d0e8563", func := "loop.example/g01126/laws.FnExactIsSeaweed", spec := "fnExactIsSeaweed", apart := false, narrowed := true }
def FnExactIsSeaweedUptoSaid : Prop := fnExactIsSeaweedUptoRow.holds Try.pinned (OpenSpec.upto fnExactIsSeaweedSpec)

/-- 'laws.FnExactArcsOf', WHERE WHAT IT READS IS OF BULK AT MOST 1048576: true; the input reads as it did. -/
def fnExactArcsOfUptoRow : OpenClaim := { program := "ytllhdmpnjcemkaa", sum := "f3574b4252eb9f305130578bd65c23b3b0ab4d46cd6c879d96cbabbd2d0e8563", func := "loop.example/g01126/laws.FnExactArcsOf", spec := "fnExactArcsOf", apart := false, narrowed := true }
def FnExactArcsOfUptoSaid : Prop := fnExactArcsOfUptoRow.holds Try.pinned (OpenSpec.upto fnExactArcsOfSpec)

/-- 'laws.FnExactFlipSeaweed', WHERE WHAT IT READS IS OF BULK AT MOST 1048576: true; the input reads as it did. -/
def fnExactFlipSeaweedUptoRow : OpenClaim := { program := "ytllhdmpnjcemkaa", sum := "f3574b4252eb9f305130578bd65c23b3b0ab4d46cd6c879d96cbabbd2d0e8563", func := "loop.example/g01126/laws.FnExactFlipSeaweed", spec := "fnExactFlipSeaweed", apart := false, narrowed := true }
def FnExactFlipSeaweedUptoSaid : Prop := fnExactFlipSeaweedUptoRow.holds Try.pinned (OpenSpec.upto fnExactFlipSeaweedSpec)

/-- 'laws.FnExactMirrorSeaweed', WHERE WHAT IT READS IS OF BULK AT MOST 1048576: true; the input reads as it did. -/
def fnExactMirrorSeaweedUptoRow : OpenClaim := { program := "ytllhdmpnjcemkaa", sum := "f3574b4252eb9f305130578bd65c23b3b0ab4d46cd6c879d96cbabbd2d0e8563", func := "loop.example/g01126/laws.FnExactMirrorSeaweed", spec := "fnExactMirrorSeaweed", apart := false, narrowed := true }
def FnExactMirrorSeaweedUptoSaid : Prop := fnExactMirrorSeaweedUptoRow.holds Try.pinned (OpenSpec.upto fnExactMirrorSeaweedSpec)

/-- 'laws.FnExactJoinSeaweeds', WHERE WHAT IT READS IS OF BULK AT MOST 1048576: true; the input reads as it did. -/
def fnExactJoinSeaweedsUptoRow : OpenClaim := { program := "ytllhdmpnjcemkaa", sum := "f3574b4252eb9f305130578bd65c23b3b0ab4d46cd6c879d96cbabbd2d0e8563", func := "loop.example/g01126/laws.FnExactJoinSeaweeds", spec := "fnExactJoinSeaweeds", apart := false, narrowed := true }
def FnExactJoinSeaweedsUptoSaid : Prop := fnExactJoinSeaweedsUptoRow.holds Try.pinned (OpenSpec.upto fnExactJoinSeaweedsSpec)

/-- 'laws.FnExactIndexOfTwo', WHERE WHAT IT READS IS OF BULK AT MOST 1048576: true; the input reads as it did. -/
def fnExactIndexOfTwoUptoRow : OpenClaim := { program := "ytllhdmpnjcemkaa", sum := "f3574b4252eb9f305130578bd65c23b3b0ab4d46cd6c879d96cbabbd2d0e8563", func := "loop.example/g01126/laws.FnExactIndexOfTwo", spec := "fnExactIndexOfTwo", recurses := true, apart := false, narrowed := true }
def FnExactIndexOfTwoUptoSaid : Prop := fnExactIndexOfTwoUptoRow.holds Try.pinned (OpenSpec.upto fnExactIndexOfTwoSpec)

/-- 'laws.FnExactIndexOfThree', WHERE WHAT IT READS IS OF BULK AT MOST 1048576: true; the input reads as it did. -/
def fnExactIndexOfThreeUptoRow : OpenClaim := { program := "ytllhdmpnjcemkaa", sum := "f3574b4252eb9f305130578bd65c23b3b0ab4d46cd6c879d96cbabbd2d0e8563", func := "loop.example/g01126/laws.FnExactIndexOfThree", spec := "fnExactIndexOfThree", recurses := true, apart := false, narrowed := true }
def FnExactIndexOfThreeUptoSaid : Prop := fnExactIndexOfThreeUptoRow.holds Try.pinned (OpenSpec.upto fnExactIndexOfThreeSpec)

/-- 'laws.FnExactWindStep', WHERE WHAT IT READS IS OF BULK AT MOST 1048576: true; the input reads as it did. -/
def fnExactWindStepUptoRow : OpenClaim := { program := "ytllhdmpnjcemkaa", sum := "f3574b4252eb9f305130578bd65c23b3b0ab4d46cd6c879d96cbabbd2d0e8563", func := "loop.example/g01126/laws.FnExactWindStep", spec := "fnExactWindStep", unfollowed := true, recurses := true, apart := false, narrowed := true }
def FnExactWindStepUptoSaid : Prop := fnExactWindStepUptoRow.holds Try.pinned (OpenSpec.upto fnExactWindStepSpec)

/-- 'laws.FnExactWindWord', WHERE WHAT IT READS IS OF BULK AT MOST 1048576: true; the input reads as it did. -/
def fnExactWindWordUptoRow : OpenClaim := { program := "ytllhdmpnjcemkaa", sum := "f3574b4252eb9f305130578bd65c23b3b0ab4d46cd6c879d96cbabbd2d0e8563", func := "loop.example/g01126/laws.FnExactWindWord", spec := "fnExactWindWord", unfollowed := true, recurses := true, apart := false, narrowed := true }
def FnExactWindWordUptoSaid : Prop := fnExactWindWordUptoRow.holds Try.pinned (OpenSpec.upto fnExactWindWordSpec)

end Rows
end Go.Proofs.Ytllhdmpnjcemkaa
