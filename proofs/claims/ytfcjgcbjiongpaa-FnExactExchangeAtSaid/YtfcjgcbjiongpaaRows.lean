/-
  No cell of these rows narrows 'for every input' (looked for: loops, veiled, ifaces, maps, wideKeys, modest, calm, conditions, laid).
  DERIVED. THE GIVEN ROWS OF THIS SEAT. 7 by the template 'for every input the law returns true; each argument reads behind the call as it read before'; 0 by the template 'total and deterministic' (their statements: YtfcjgcbjiongpaaTotals.lean).
  GIVEN WITH THE SEED: the statements are not yours to turn. If you find one false, say at which input.
  Laid BY PROGRAM, IN A SANDBOX (cutbox-rows.mjs): the forced cells as the released guide's own fill.sh prints them over the translation 716c6f3b827c62cb… (all of the seat's roots in one cut). By AI agents, Wed Nov 11 2026. No macro, syntax, notation, axiom, sorry.
-/
import Derived.Test.YtfcjgcbjiongpaaChecked
import GoSem.Claim
import GoSem.ClaimJoined
import GoSem.ClaimMapViews
import Derived.JoinedTies
import Derived.KernelRfl
namespace Go.Proofs.Ytfcjgcbjiongpaa
/- THE CELL 'sum', in the pinned program and in every row, IS THE sha256 OF THE DUMP (.gsa) THAT YtfcjgcbjiongpaaProg.lean LOADS. Nothing in Lean hashes anything: it is a label: what it is worth is what the hold of that sum in a sandbox is worth. -/
noncomputable def Try.pinned : Pinned := { name := "ytfcjgcbjiongpaa", sum := "716c6f3b827c62cbf56c84a62e08e2e4dd552bb8dbbb64fe42480b604bd4d485", checked := Try.checked }
namespace Rows
def none {H : Type} : Left H := { results := [], args := [] }

/-- 'laws.FnExactFacesOf': WHATEVER THE INPUT: true; the input reads as it did. -/
def fnExactFacesOfSpec : ChangeSpec := { name := "fnExactFacesOf", fn := fun _ => fun
  | [d] => { results := [.lit (.bool true)], args := [d] }
  | _ => none }
def fnExactFacesOfRow : OpenClaim := { program := "ytfcjgcbjiongpaa", sum := "716c6f3b827c62cbf56c84a62e08e2e4dd552bb8dbbb64fe42480b604bd4d485", func := "loop.example/g01126/laws.FnExactFacesOf", spec := "fnExactFacesOf", unfollowed := true, recurses := true, apart := false }
def FnExactFacesOfSaid : Prop := fnExactFacesOfRow.holds Try.pinned (OpenSpec.ofChange fnExactFacesOfSpec)

/-- ITS FALSE NEIGHBOUR: 'it returns false'. Refute it at one input. -/
def fnExactFacesOfWrong : ChangeSpec := { name := "fnExactFacesOf", fn := fun _ => fun
  | [d] => { results := [.lit (.bool false)], args := [d] }
  | _ => none }
def FnExactFacesOfWrongFalsely : Prop := fnExactFacesOfRow.holds Try.pinned (OpenSpec.ofChange fnExactFacesOfWrong)

/-- 'laws.FnExactExchangeAt': WHATEVER THE INPUT: true; the input reads as it did. -/
def fnExactExchangeAtSpec : ChangeSpec := { name := "fnExactExchangeAt", fn := fun _ => fun
  | [d1, d2, d3] => { results := [.lit (.bool true)], args := [d1, d2, d3] }
  | _ => none }
def fnExactExchangeAtRow : OpenClaim := { program := "ytfcjgcbjiongpaa", sum := "716c6f3b827c62cbf56c84a62e08e2e4dd552bb8dbbb64fe42480b604bd4d485", func := "loop.example/g01126/laws.FnExactExchangeAt", spec := "fnExactExchangeAt", unfollowed := true, recurses := true, apart := false }
def FnExactExchangeAtSaid : Prop := fnExactExchangeAtRow.holds Try.pinned (OpenSpec.ofChange fnExactExchangeAtSpec)

/-- ITS FALSE NEIGHBOUR: 'it returns false'. Refute it at one input. -/
def fnExactExchangeAtWrong : ChangeSpec := { name := "fnExactExchangeAt", fn := fun _ => fun
  | [d1, d2, d3] => { results := [.lit (.bool false)], args := [d1, d2, d3] }
  | _ => none }
def FnExactExchangeAtWrongFalsely : Prop := fnExactExchangeAtRow.holds Try.pinned (OpenSpec.ofChange fnExactExchangeAtWrong)

/-- 'laws.FnExactExchangesOf': WHATEVER THE INPUT: true; the input reads as it did. -/
def fnExactExchangesOfSpec : ChangeSpec := { name := "fnExactExchangesOf", fn := fun _ => fun
  | [d] => { results := [.lit (.bool true)], args := [d] }
  | _ => none }
def fnExactExchangesOfRow : OpenClaim := { program := "ytfcjgcbjiongpaa", sum := "716c6f3b827c62cbf56c84a62e08e2e4dd552bb8dbbb64fe42480b604bd4d485", func := "loop.example/g01126/laws.FnExactExchangesOf", spec := "fnExactExchangesOf", unfollowed := true, recurses := true, apart := false }
def FnExactExchangesOfSaid : Prop := fnExactExchangesOfRow.holds Try.pinned (OpenSpec.ofChange fnExactExchangesOfSpec)

/-- ITS FALSE NEIGHBOUR: 'it returns false'. Refute it at one input. -/
def fnExactExchangesOfWrong : ChangeSpec := { name := "fnExactExchangesOf", fn := fun _ => fun
  | [d] => { results := [.lit (.bool false)], args := [d] }
  | _ => none }
def FnExactExchangesOfWrongFalsely : Prop := fnExactExchangesOfRow.holds Try.pinned (OpenSpec.ofChange fnExactExchangesOfWrong)

/-- 'laws.FnExactCountExchanges': WHATEVER THE INPUT: true; the input reads as it did. -/
def fnExactCountExchangesSpec : ChangeSpec := { name := "fnExactCountExchanges", fn := fun _ => fun
  | [d] => { results := [.lit (.bool true)], args := [d] }
  | _ => none }
def fnExactCountExchangesRow : OpenClaim := { program := "ytfcjgcbjiongpaa", sum := "716c6f3b827c62cbf56c84a62e08e2e4dd552bb8dbbb64fe42480b604bd4d485", func := "loop.example/g01126/laws.FnExactCountExchanges", spec := "fnExactCountExchanges", unfollowed := true, recurses := true, apart := false }
def FnExactCountExchangesSaid : Prop := fnExactCountExchangesRow.holds Try.pinned (OpenSpec.ofChange fnExactCountExchangesSpec)

/-- ITS FALSE NEIGHBOUR: 'it returns false'. Refute it at one input. -/
def fnExactCountExchangesWrong : ChangeSpec := { name := "fnExactCountExchanges", fn := fun _ => fun
  | [d] => { results := [.lit (.bool false)], args := [d] }
  | _ => none }
def FnExactCountExchangesWrongFalsely : Prop := fnExactCountExchangesRow.holds Try.pinned (OpenSpec.ofChange fnExactCountExchangesWrong)

/-- 'laws.FnExactExchangeDistance': WHATEVER THE INPUT: true; the input reads as it did. -/
def fnExactExchangeDistanceSpec : ChangeSpec := { name := "fnExactExchangeDistance", fn := fun _ => fun
  | [d1, d2] => { results := [.lit (.bool true)], args := [d1, d2] }
  | _ => none }
def fnExactExchangeDistanceRow : OpenClaim := { program := "ytfcjgcbjiongpaa", sum := "716c6f3b827c62cbf56c84a62e08e2e4dd552bb8dbbb64fe42480b604bd4d485", func := "loop.example/g01126/laws.FnExactExchangeDistance", spec := "fnExactExchangeDistance", unfollowed := true, recurses := true, apart := false }
def FnExactExchangeDistanceSaid : Prop := fnExactExchangeDistanceRow.holds Try.pinned (OpenSpec.ofChange fnExactExchangeDistanceSpec)

/-- ITS FALSE NEIGHBOUR: 'it returns false'. Refute it at one input. -/
def fnExactExchangeDistanceWrong : ChangeSpec := { name := "fnExactExchangeDistance", fn := fun _ => fun
  | [d1, d2] => { results := [.lit (.bool false)], args := [d1, d2] }
  | _ => none }
def FnExactExchangeDistanceWrongFalsely : Prop := fnExactExchangeDistanceRow.holds Try.pinned (OpenSpec.ofChange fnExactExchangeDistanceWrong)

/-- 'laws.FnExactFarthestFrom': WHATEVER THE INPUT: true; the input reads as it did. -/
def fnExactFarthestFromSpec : ChangeSpec := { name := "fnExactFarthestFrom", fn := fun _ => fun
  | [d] => { results := [.lit (.bool true)], args := [d] }
  | _ => none }
def fnExactFarthestFromRow : OpenClaim := { program := "ytfcjgcbjiongpaa", sum := "716c6f3b827c62cbf56c84a62e08e2e4dd552bb8dbbb64fe42480b604bd4d485", func := "loop.example/g01126/laws.FnExactFarthestFrom", spec := "fnExactFarthestFrom", unfollowed := true, recurses := true, apart := false }
def FnExactFarthestFromSaid : Prop := fnExactFarthestFromRow.holds Try.pinned (OpenSpec.ofChange fnExactFarthestFromSpec)

/-- ITS FALSE NEIGHBOUR: 'it returns false'. Refute it at one input. -/
def fnExactFarthestFromWrong : ChangeSpec := { name := "fnExactFarthestFrom", fn := fun _ => fun
  | [d] => { results := [.lit (.bool false)], args := [d] }
  | _ => none }
def FnExactFarthestFromWrongFalsely : Prop := fnExactFarthestFromRow.holds Try.pinned (OpenSpec.ofChange fnExactFarthestFromWrong)

/-- 'laws.FnExactMergeDistance': WHATEVER THE INPUT: true; the input reads as it did. -/
def fnExactMergeDistanceSpec : ChangeSpec := { name := "fnExactMergeDistance", fn := fun _ => fun
  | [d] => { results := [.lit (.bool true)], args := [d] }
  | _ => none }
def fnExactMergeDistanceRow : OpenClaim := { program := "ytfcjgcbjiongpaa", sum := "716c6f3b827c62cbf56c84a62e08e2e4dd552bb8dbbb64fe42480b604bd4d485", func := "loop.example/g01126/laws.FnExactMergeDistance", spec := "fnExactMergeDistance", unfollowed := true, recurses := true, apart := false }
def FnExactMergeDistanceSaid : Prop := fnExactMergeDistanceRow.holds Try.pinned (OpenSpec.ofChange fnExactMergeDistanceSpec)

/-- ITS FALSE NEIGHBOUR: 'it returns false'. Refute it at one input. -/
def fnExactMergeDistanceWrong : ChangeSpec := { name := "fnExactMergeDistance", fn := fun _ => fun
  | [d] => { results := [.lit (.bool false)], args := [d] }
  | _ => none }
def FnExactMergeDistanceWrongFalsely : Prop := fnExactMergeDistanceRow.holds Try.pinned (OpenSpec.ofChange fnExactMergeDistanceWrong)

/- THE SECOND FORM. 'bulk': how many values and letters a reading holds, each counted each time it is reached (what is shared counts as often as it is met; a slice's spare places count too). A statement '..UptoSaid' is the law's where the arguments, and the package variables that the reading takes, are together of bulk at most 1048576: NARROWER than '..Said'. Prove '..Said' where nothing that the law and all that it calls make is longer than what came in: it says more and counts as full. Else prove '..UptoSaid'. A law counts once. -/
mutual
def uptoBulk {H : Type} : DataW H → Nat
  | .lit (.string bytes) => bytes.length + 1
  | .lit _ => 1
  | .nil => 1
  | .ptr d => uptoBulk d + 1
  | .slice elems spare => uptoBulkAll elems + uptoBulkAll spare + 1
  | .agg parts => uptoBulkAll parts + 1
  | .iface _ d => uptoBulk d + 1
  | .map entries => uptoBulkEntries entries + 1
  | .held _ => 1
def uptoBulkAll {H : Type} : List (DataW H) → Nat
  | [] => 0
  | d :: r => uptoBulk d + uptoBulkAll r
def uptoBulkEntries {H : Type} : List (Lit × DataW H) → Nat
  | [] => 0
  | x :: r => uptoBulkEntry x + uptoBulkEntries r
def uptoBulkEntry {H : Type} : Lit × DataW H → Nat
  | (.string bytes, d) => bytes.length + uptoBulk d + 1
  | (_, d) => uptoBulk d + 1
 end
def uptoSmall : (H : Type) → List (DataW H) → Bool := fun _ ds => decide (uptoBulkAll ds ≤ 1048576)
def OpenSpec.upto (s : _root_.Go.ChangeSpec) : _root_.Go.OpenSpec := { _root_.Go.OpenSpec.ofChange s with cond := some uptoSmall }

/-- 'laws.FnExactFacesOf', WHERE WHAT IT READS IS OF BULK AT MOST 1048576: true; the input reads as it did. -/
def fnExactFacesOfUptoRow : OpenClaim := { program := "ytfcjgcbjiongpaa", sum := "716c6f3b827c62cbf56c84a62e08e2e4dd552bb8dbbb64fe42480b604bd4d485", func := "loop.example/g01126/laws.FnExactFacesOf", spec := "fnExactFacesOf", unfollowed := true, recurses := true, apart := false, narrowed := true }
def FnExactFacesOfUptoSaid : Prop := fnExactFacesOfUptoRow.holds Try.pinned (OpenSpec.upto fnExactFacesOfSpec)

/-- 'laws.FnExactExchangeAt', WHERE WHAT IT READS IS OF BULK AT MOST 1048576: true; the input reads as it did. -/
def fnExactExchangeAtUptoRow : OpenClaim := { program := "ytfcjgcbjiongpaa", sum := "716c6f3b827c62cbf56c84a62e08e2e4dd552bb8dbbb64fe42480b604bd4d485", func := "loop.example/g01126/laws.FnExactExchangeAt", spec := "fnExactExchangeAt", unfollowed := true, recurses := true, apart := false, narrowed := true }
def FnExactExchangeAtUptoSaid : Prop := fnExactExchangeAtUptoRow.holds Try.pinned (OpenSpec.upto fnExactExchangeAtSpec)

/-- 'laws.FnExactExchangesOf', WHERE WHAT IT READS IS OF BULK AT MOST 1048576: true; the input reads as it did. -/
def fnExactExchangesOfUptoRow : OpenClaim := { program := "ytfcjgcbjiongpaa", sum := "716c6f3b827c62cbf56c84a62e08e2e4dd552bb8dbbb64fe42480b604bd4d485", func := "loop.example/g01126/laws.FnExactExchangesOf", spec := "fnExactExchangesOf", unfollowed := true, recurses := true, apart := false, narrowed := true }
def FnExactExchangesOfUptoSaid : Prop := fnExactExchangesOfUptoRow.holds Try.pinned (OpenSpec.upto fnExactExchangesOfSpec)

/-- 'laws.FnExactCountExchanges', WHERE WHAT IT READS IS OF BULK AT MOST 1048576: true; the input reads as it did. -/
def fnExactCountExchangesUptoRow : OpenClaim := { program := "ytfcjgcbjiongpaa", sum := "716c6f3b827c62cbf56c84a62e08e2e4dd552bb8dbbb64fe42480b604bd4d485", func := "loop.example/g01126/laws.FnExactCountExchanges", spec := "fnExactCountExchanges", unfollowed := true, recurses := true, apart := false, narrowed := true }
def FnExactCountExchangesUptoSaid : Prop := fnExactCountExchangesUptoRow.holds Try.pinned (OpenSpec.upto fnExactCountExchangesSpec)

/-- 'laws.FnExactExchangeDistance', WHERE WHAT IT READS IS OF BULK AT MOST 1048576: true; the input reads as it did. -/
def fnExactExchangeDistanceUptoRow : OpenClaim := { program := "ytfcjgcbjiongpaa", sum := "716c6f3b827c62cbf56c84a62e08e2e4dd552bb8dbbb64fe42480b604bd4d485", func := "loop.example/g01126/laws.FnExactExchangeDistance", spec := "fnExactExchangeDistance", unfollowed := true, recurses := true, apart := false, narrowed := true }
def FnExactExchangeDistanceUptoSaid : Prop := fnExactExchangeDistanceUptoRow.holds Try.pinned (OpenSpec.upto fnExactExchangeDistanceSpec)

/-- 'laws.FnExactFarthestFrom', WHERE WHAT IT READS IS OF BULK AT MOST 1048576: true; the input reads as it did. -/
def fnExactFarthestFromUptoRow : OpenClaim := { program := "ytfcjgcbjiongpaa", sum := "716c6f3b827c62cbf56c84a62e08e2e4dd552bb8dbbb64fe42480b604bd4d485", func := "loop.example/g01126/laws.FnExactFarthestFrom", spec := "fnExactFarthestFrom", unfollowed := true, recurses := true, apart := false, narrowed := true }
def FnExactFarthestFromUptoSaid : Prop := fnExactFarthestFromUptoRow.holds Try.pinned (OpenSpec.upto fnExactFarthestFromSpec)

/-- 'laws.FnExactMergeDistance', WHERE WHAT IT READS IS OF BULK AT MOST 1048576: true; the input reads as it did. -/
def fnExactMergeDistanceUptoRow : OpenClaim := { program := "ytfcjgcbjiongpaa", sum := "716c6f3b827c62cbf56c84a62e08e2e4dd552bb8dbbb64fe42480b604bd4d485", func := "loop.example/g01126/laws.FnExactMergeDistance", spec := "fnExactMergeDistance", unfollowed := true, recurses := true, apart := false, narrowed := true }
def FnExactMergeDistanceUptoSaid : Prop := fnExactMergeDistanceUptoRow.holds Try.pinned (OpenSpec.upto fnExactMergeDistanceSpec)

end Rows
end Go.Proofs.Ytfcjgcbjiongpaa
