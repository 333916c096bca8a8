/-
  No cell of these rows narrows 'for every input' (looked for: loops, veiled, ifaces, maps, wideKeys, modest, calm, conditions, laid).
  DERIVED. THE GIVEN ROWS OF THIS SEAT. 9 by the template 'for every input the law returns true; each argument reads behind the call as it read before'; 0 by the template 'total and deterministic' (their statements: YtpanajnlkacmdaaTotals.lean).
  GIVEN WITH THE SEED: the statements are not yours to turn. If you find one false, say at which input.
  Laid BY PROGRAM, IN A SANDBOX (cutbox-rows.mjs): the forced cells as the released guide's own fill.sh prints them over the translation 17b552ff4c950333… (all of the seat's roots in one cut). By AI agents, Wed Nov 11 2026. No macro, syntax, notation, axiom, sorry.
-/
import Derived.Test.YtpanajnlkacmdaaChecked
import GoSem.Claim
import GoSem.ClaimJoined
import GoSem.ClaimMapViews
import Derived.JoinedTies
import Derived.KernelRfl
namespace Go.Proofs.Ytpanajnlkacmdaa
/- THE CELL 'sum', in the pinned program and in every row, IS THE sha256 OF THE DUMP (.gsa) THAT YtpanajnlkacmdaaProg.lean LOADS. Nothing in Lean hashes anything: it is a label: what it is worth is what the hold of that sum in a sandbox is worth. -/
noncomputable def Try.pinned : Pinned := { name := "ytpanajnlkacmdaa", sum := "17b552ff4c950333a09a3324bdfd57e86e3b68b49c8a9fce6d52978b213779df", checked := Try.checked }
namespace Rows
def none {H : Type} : Left H := { results := [], args := [] }

/-- 'laws.FnExactIsMeander': WHATEVER THE INPUT: true; the input reads as it did. -/
def fnExactIsMeanderSpec : ChangeSpec := { name := "fnExactIsMeander", fn := fun _ => fun
  | [d] => { results := [.lit (.bool true)], args := [d] }
  | _ => none }
def fnExactIsMeanderRow : OpenClaim := { program := "ytpanajnlkacmdaa", sum := "17b552ff4c950333a09a3324bdfd57e86e3b68b49c8a9fce6d52978b213779df", func := "loop.example/g01126/laws.FnExactIsMeander", spec := "fnExactIsMeander", unfollowed := true, recurses := true, apart := false }
def FnExactIsMeanderSaid : Prop := fnExactIsMeanderRow.holds Try.pinned (OpenSpec.ofChange fnExactIsMeanderSpec)

/-- ITS FALSE NEIGHBOUR: 'it returns false'. Refute it at one input. -/
def fnExactIsMeanderWrong : ChangeSpec := { name := "fnExactIsMeander", fn := fun _ => fun
  | [d] => { results := [.lit (.bool false)], args := [d] }
  | _ => none }
def FnExactIsMeanderWrongFalsely : Prop := fnExactIsMeanderRow.holds Try.pinned (OpenSpec.ofChange fnExactIsMeanderWrong)

/-- 'laws.FnExactComponentsOf': WHATEVER THE INPUT: true; the input reads as it did. -/
def fnExactComponentsOfSpec : ChangeSpec := { name := "fnExactComponentsOf", fn := fun _ => fun
  | [d] => { results := [.lit (.bool true)], args := [d] }
  | _ => none }
def fnExactComponentsOfRow : OpenClaim := { program := "ytpanajnlkacmdaa", sum := "17b552ff4c950333a09a3324bdfd57e86e3b68b49c8a9fce6d52978b213779df", func := "loop.example/g01126/laws.FnExactComponentsOf", spec := "fnExactComponentsOf", unfollowed := true, recurses := true, apart := false }
def FnExactComponentsOfSaid : Prop := fnExactComponentsOfRow.holds Try.pinned (OpenSpec.ofChange fnExactComponentsOfSpec)

/-- ITS FALSE NEIGHBOUR: 'it returns false'. Refute it at one input. -/
def fnExactComponentsOfWrong : ChangeSpec := { name := "fnExactComponentsOf", fn := fun _ => fun
  | [d] => { results := [.lit (.bool false)], args := [d] }
  | _ => none }
def FnExactComponentsOfWrongFalsely : Prop := fnExactComponentsOfRow.holds Try.pinned (OpenSpec.ofChange fnExactComponentsOfWrong)

/-- 'laws.FnExactCurvesOf': WHATEVER THE INPUT: true; the input reads as it did. -/
def fnExactCurvesOfSpec : ChangeSpec := { name := "fnExactCurvesOf", fn := fun _ => fun
  | [d] => { results := [.lit (.bool true)], args := [d] }
  | _ => none }
def fnExactCurvesOfRow : OpenClaim := { program := "ytpanajnlkacmdaa", sum := "17b552ff4c950333a09a3324bdfd57e86e3b68b49c8a9fce6d52978b213779df", func := "loop.example/g01126/laws.FnExactCurvesOf", spec := "fnExactCurvesOf", unfollowed := true, recurses := true, apart := false }
def FnExactCurvesOfSaid : Prop := fnExactCurvesOfRow.holds Try.pinned (OpenSpec.ofChange fnExactCurvesOfSpec)

/-- ITS FALSE NEIGHBOUR: 'it returns false'. Refute it at one input. -/
def fnExactCurvesOfWrong : ChangeSpec := { name := "fnExactCurvesOf", fn := fun _ => fun
  | [d] => { results := [.lit (.bool false)], args := [d] }
  | _ => none }
def FnExactCurvesOfWrongFalsely : Prop := fnExactCurvesOfRow.holds Try.pinned (OpenSpec.ofChange fnExactCurvesOfWrong)

/-- 'laws.FnExactCurveOfPoints': WHATEVER THE INPUT: true; the input reads as it did. -/
def fnExactCurveOfPointsSpec : ChangeSpec := { name := "fnExactCurveOfPoints", fn := fun _ => fun
  | [d] => { results := [.lit (.bool true)], args := [d] }
  | _ => none }
def fnExactCurveOfPointsRow : OpenClaim := { program := "ytpanajnlkacmdaa", sum := "17b552ff4c950333a09a3324bdfd57e86e3b68b49c8a9fce6d52978b213779df", func := "loop.example/g01126/laws.FnExactCurveOfPoints", spec := "fnExactCurveOfPoints", unfollowed := true, recurses := true, apart := false }
def FnExactCurveOfPointsSaid : Prop := fnExactCurveOfPointsRow.holds Try.pinned (OpenSpec.ofChange fnExactCurveOfPointsSpec)

/-- ITS FALSE NEIGHBOUR: 'it returns false'. Refute it at one input. -/
def fnExactCurveOfPointsWrong : ChangeSpec := { name := "fnExactCurveOfPoints", fn := fun _ => fun
  | [d] => { results := [.lit (.bool false)], args := [d] }
  | _ => none }
def FnExactCurveOfPointsWrongFalsely : Prop := fnExactCurveOfPointsRow.holds Try.pinned (OpenSpec.ofChange fnExactCurveOfPointsWrong)

/-- 'laws.FnExactWayFrom': WHATEVER THE INPUT: true; the input reads as it did. -/
def fnExactWayFromSpec : ChangeSpec := { name := "fnExactWayFrom", fn := fun _ => fun
  | [d1, d2] => { results := [.lit (.bool true)], args := [d1, d2] }
  | _ => none }
def fnExactWayFromRow : OpenClaim := { program := "ytpanajnlkacmdaa", sum := "17b552ff4c950333a09a3324bdfd57e86e3b68b49c8a9fce6d52978b213779df", func := "loop.example/g01126/laws.FnExactWayFrom", spec := "fnExactWayFrom", unfollowed := true, recurses := true, apart := false }
def FnExactWayFromSaid : Prop := fnExactWayFromRow.holds Try.pinned (OpenSpec.ofChange fnExactWayFromSpec)

/-- ITS FALSE NEIGHBOUR: 'it returns false'. Refute it at one input. -/
def fnExactWayFromWrong : ChangeSpec := { name := "fnExactWayFrom", fn := fun _ => fun
  | [d1, d2] => { results := [.lit (.bool false)], args := [d1, d2] }
  | _ => none }
def FnExactWayFromWrongFalsely : Prop := fnExactWayFromRow.holds Try.pinned (OpenSpec.ofChange fnExactWayFromWrong)

/-- 'laws.FnExactJoinMeanders': WHATEVER THE INPUT: true; the input reads as it did. -/
def fnExactJoinMeandersSpec : ChangeSpec := { name := "fnExactJoinMeanders", fn := fun _ => fun
  | [d1, d2] => { results := [.lit (.bool true)], args := [d1, d2] }
  | _ => none }
def fnExactJoinMeandersRow : OpenClaim := { program := "ytpanajnlkacmdaa", sum := "17b552ff4c950333a09a3324bdfd57e86e3b68b49c8a9fce6d52978b213779df", func := "loop.example/g01126/laws.FnExactJoinMeanders", spec := "fnExactJoinMeanders", unfollowed := true, recurses := true, apart := false }
def FnExactJoinMeandersSaid : Prop := fnExactJoinMeandersRow.holds Try.pinned (OpenSpec.ofChange fnExactJoinMeandersSpec)

/-- ITS FALSE NEIGHBOUR: 'it returns false'. Refute it at one input. -/
def fnExactJoinMeandersWrong : ChangeSpec := { name := "fnExactJoinMeanders", fn := fun _ => fun
  | [d1, d2] => { results := [.lit (.bool false)], args := [d1, d2] }
  | _ => none }
def FnExactJoinMeandersWrongFalsely : Prop := fnExactJoinMeandersRow.holds Try.pinned (OpenSpec.ofChange fnExactJoinMeandersWrong)

/-- 'laws.FnExactParseMeander': WHATEVER THE INPUT: true; the input reads as it did. -/
def fnExactParseMeanderSpec : ChangeSpec := { name := "fnExactParseMeander", fn := fun _ => fun
  | [d] => { results := [.lit (.bool true)], args := [d] }
  | _ => none }
def fnExactParseMeanderRow : OpenClaim := { program := "ytpanajnlkacmdaa", sum := "17b552ff4c950333a09a3324bdfd57e86e3b68b49c8a9fce6d52978b213779df", func := "loop.example/g01126/laws.FnExactParseMeander", spec := "fnExactParseMeander", inPlace := ["internal/bytealg.IndexByteString", "internal/bytealg.IndexString"], named := ["internal/bytealg.MaxLen"], apart := false }
def FnExactParseMeanderSaid : Prop := fnExactParseMeanderRow.holds Try.pinned (OpenSpec.ofChange fnExactParseMeanderSpec)

/-- ITS FALSE NEIGHBOUR: 'it returns false'. Refute it at one input. -/
def fnExactParseMeanderWrong : ChangeSpec := { name := "fnExactParseMeander", fn := fun _ => fun
  | [d] => { results := [.lit (.bool false)], args := [d] }
  | _ => none }
def FnExactParseMeanderWrongFalsely : Prop := fnExactParseMeanderRow.holds Try.pinned (OpenSpec.ofChange fnExactParseMeanderWrong)

/-- 'laws.FnExactPairOfSteps': WHATEVER THE INPUT: true; the input reads as it did. -/
def fnExactPairOfStepsSpec : ChangeSpec := { name := "fnExactPairOfSteps", fn := fun _ => fun
  | [d] => { results := [.lit (.bool true)], args := [d] }
  | _ => none }
def fnExactPairOfStepsRow : OpenClaim := { program := "ytpanajnlkacmdaa", sum := "17b552ff4c950333a09a3324bdfd57e86e3b68b49c8a9fce6d52978b213779df", func := "loop.example/g01126/laws.FnExactPairOfSteps", spec := "fnExactPairOfSteps", inPlace := ["internal/bytealg.IndexByteString", "internal/bytealg.IndexString"], named := ["internal/bytealg.MaxLen"], apart := false }
def FnExactPairOfStepsSaid : Prop := fnExactPairOfStepsRow.holds Try.pinned (OpenSpec.ofChange fnExactPairOfStepsSpec)

/-- ITS FALSE NEIGHBOUR: 'it returns false'. Refute it at one input. -/
def fnExactPairOfStepsWrong : ChangeSpec := { name := "fnExactPairOfSteps", fn := fun _ => fun
  | [d] => { results := [.lit (.bool false)], args := [d] }
  | _ => none }
def FnExactPairOfStepsWrongFalsely : Prop := fnExactPairOfStepsRow.holds Try.pinned (OpenSpec.ofChange fnExactPairOfStepsWrong)

/-- 'laws.FnExactStepsOf': WHATEVER THE INPUT: true; the input reads as it did. -/
def fnExactStepsOfSpec : ChangeSpec := { name := "fnExactStepsOf", fn := fun _ => fun
  | [d] => { results := [.lit (.bool true)], args := [d] }
  | _ => none }
def fnExactStepsOfRow : OpenClaim := { program := "ytpanajnlkacmdaa", sum := "17b552ff4c950333a09a3324bdfd57e86e3b68b49c8a9fce6d52978b213779df", func := "loop.example/g01126/laws.FnExactStepsOf", spec := "fnExactStepsOf", apart := false }
def FnExactStepsOfSaid : Prop := fnExactStepsOfRow.holds Try.pinned (OpenSpec.ofChange fnExactStepsOfSpec)

/-- ITS FALSE NEIGHBOUR: 'it returns false'. Refute it at one input. -/
def fnExactStepsOfWrong : ChangeSpec := { name := "fnExactStepsOf", fn := fun _ => fun
  | [d] => { results := [.lit (.bool false)], args := [d] }
  | _ => none }
def FnExactStepsOfWrongFalsely : Prop := fnExactStepsOfRow.holds Try.pinned (OpenSpec.ofChange fnExactStepsOfWrong)

/- THE SECOND FORM. 'bulk': how many values and letters a reading holds, each counted each time it is reached (what is shared counts as often as it is met; a slice's spare places count too). A statement '..UptoSaid' is the law's where the arguments, and the package variables that the reading takes, are together of bulk at most 1048576: NARROWER than '..Said'. Prove '..Said' where nothing that the law and all that it calls make is longer than what came in: it says more and counts as full. Else prove '..UptoSaid'. A law counts once. -/
mutual
def uptoBulk {H : Type} : DataW H → Nat
  | .lit (.string bytes) => bytes.length + 1
  | .lit _ => 1
  | .nil => 1
  | .ptr d => uptoBulk d + 1
  | .slice elems spare => uptoBulkAll elems + uptoBulkAll spare + 1
  | .agg parts => uptoBulkAll parts + 1
  | .iface _ d => uptoBulk d + 1
  | .map entries => uptoBulkEntries entries + 1
  | .held _ => 1
def uptoBulkAll {H : Type} : List (DataW H) → Nat
  | [] => 0
  | d :: r => uptoBulk d + uptoBulkAll r
def uptoBulkEntries {H : Type} : List (Lit × DataW H) → Nat
  | [] => 0
  | x :: r => uptoBulkEntry x + uptoBulkEntries r
def uptoBulkEntry {H : Type} : Lit × DataW H → Nat
  | (.string bytes, d) => bytes.length + uptoBulk d + 1
  | (_, d) => uptoBulk d + 1
 end
def uptoSmall : (H : Type) → List (DataW H) → Bool := fun _ ds => decide (uptoBulkAll ds ≤ 1048576)
def OpenSpec.upto (s : _root_.Go.ChangeSpec) : _root_.Go.OpenSpec := { _root_.Go.OpenSpec.ofChange s with cond := some uptoSmall }

/-- 'laws.FnExactIsMeander', WHERE WHAT IT READS IS OF BULK AT MOST 1048576: true; the input reads as it did. -/
def fnExactIsMeanderUptoRow : OpenClaim := { program := "ytpanajnlkacmdaa", sum := "17b552ff4c950333a09a3324bdfd57e86e3b68b49c8a9fce6d52978b213779df", func := "loop.example/g01126/laws.FnExactIsMeander", spec := "fnExactIsMeander", unfollowed := true, recurses := true, apart := false, narrowed := true }
def FnExactIsMeanderUptoSaid : Prop := fnExactIsMeanderUptoRow.holds Try.pinned (OpenSpec.upto fnExactIsMeanderSpec)

/-- 'laws.FnExactComponentsOf', WHERE WHAT IT READS IS OF BULK AT MOST 1048576: true; the input reads as it did. -/
def fnExactComponentsOfUptoRow : OpenClaim := { program := "ytpanajnlkacmdaa", sum := "17b552ff4c950333a09a3324bdfd57e86e3b68b49c8a9fce6d52978b213779df", func := "loop.example/g01126/laws.FnExactComponentsOf", spec := "fnExactComponentsOf", unfollowed := true, recurses := true, apart := false, narrowed := true }
def FnExactComponentsOfUptoSaid : Prop := fnExactComponentsOfUptoRow.holds Try.pinned (OpenSpec.upto fnExactComponentsOfSpec)

/-- 'laws.FnExactCurvesOf', WHERE WHAT IT READS IS OF BULK AT MOST 1048576: true; the input reads as it did. -/
def fnExactCurvesOfUptoRow : OpenClaim := { program := "ytpanajnlkacmdaa", sum := "17b552ff4c950333a09a3324bdfd57e86e3b68b49c8a9fce6d52978b213779df", func := "loop.example/g01126/laws.FnExactCurvesOf", spec := "fnExactCurvesOf", unfollowed := true, recurses := true, apart := false, narrowed := true }
def FnExactCurvesOfUptoSaid : Prop := fnExactCurvesOfUptoRow.holds Try.pinned (OpenSpec.upto fnExactCurvesOfSpec)

/-- 'laws.FnExactCurveOfPoints', WHERE WHAT IT READS IS OF BULK AT MOST 1048576: true; the input reads as it did. -/
def fnExactCurveOfPointsUptoRow : OpenClaim := { program := "ytpanajnlkacmdaa", sum := "17b552ff4c950333a09a3324bdfd57e86e3b68b49c8a9fce6d52978b213779df", func := "loop.example/g01126/laws.FnExactCurveOfPoints", spec := "fnExactCurveOfPoints", unfollowed := true, recurses := true, apart := false, narrowed := true }
def FnExactCurveOfPointsUptoSaid : Prop := fnExactCurveOfPointsUptoRow.holds Try.pinned (OpenSpec.upto fnExactCurveOfPointsSpec)

/-- 'laws.FnExactWayFrom', WHERE WHAT IT READS IS OF BULK AT MOST 1048576: true; the input reads as it did. -/
def fnExactWayFromUptoRow : OpenClaim := { program := "ytpanajnlkacmdaa", sum := "17b552ff4c950333a09a3324bdfd57e86e3b68b49c8a9fce6d52978b213779df", func := "loop.example/g01126/laws.FnExactWayFrom", spec := "fnExactWayFrom", unfollowed := true, recurses := true, apart := false, narrowed := true }
def FnExactWayFromUptoSaid : Prop := fnExactWayFromUptoRow.holds Try.pinned (OpenSpec.upto fnExactWayFromSpec)

/-- 'laws.FnExactJoinMeanders', WHERE WHAT IT READS IS OF BULK AT MOST 1048576: true; the input reads as it did. -/
def fnExactJoinMeandersUptoRow : OpenClaim := { program := "ytpanajnlkacmdaa", sum := "17b552ff4c950333a09a3324bdfd57e86e3b68b49c8a9fce6d52978b213779df", func := "loop.example/g01126/laws.FnExactJoinMeanders", spec := "fnExactJoinMeanders", unfollowed := true, recurses := true, apart := false, narrowed := true }
def FnExactJoinMeandersUptoSaid : Prop := fnExactJoinMeandersUptoRow.holds Try.pinned (OpenSpec.upto fnExactJoinMeandersSpec)

/-- 'laws.FnExactParseMeander', WHERE WHAT IT READS IS OF BULK AT MOST 1048576: true; the input reads as it did. -/
def fnExactParseMeanderUptoRow : OpenClaim := { program := "ytpanajnlkacmdaa", sum := "17b552ff4c950333a09a3324bdfd57e86e3b68b49c8a9fce6d52978b213779df", func := "loop.example/g01126/laws.FnExactParseMeander", spec := "fnExactParseMeander", inPlace := ["internal/bytealg.IndexByteString", "internal/bytealg.IndexString"], named := ["internal/bytealg.MaxLen"], apart := false, narrowed := true }
def FnExactParseMeanderUptoSaid : Prop := fnExactParseMeanderUptoRow.holds Try.pinned (OpenSpec.upto fnExactParseMeanderSpec)

/-- 'laws.FnExactPairOfSteps', WHERE WHAT IT READS IS OF BULK AT MOST 1048576: true; the input reads as it did. -/
def fnExactPairOfStepsUptoRow : OpenClaim := { program := "ytpanajnlkacmdaa", sum := "17b552ff4c950333a09a3324bdfd57e86e3b68b49c8a9fce6d52978b213779df", func := "loop.example/g01126/laws.FnExactPairOfSteps", spec := "fnExactPairOfSteps", inPlace := ["internal/bytealg.IndexByteString", "internal/bytealg.IndexString"], named := ["internal/bytealg.MaxLen"], apart := false, narrowed := true }
def FnExactPairOfStepsUptoSaid : Prop := fnExactPairOfStepsUptoRow.holds Try.pinned (OpenSpec.upto fnExactPairOfStepsSpec)

/-- 'laws.FnExactStepsOf', WHERE WHAT IT READS IS OF BULK AT MOST 1048576: true; the input reads as it did. -/
def fnExactStepsOfUptoRow : OpenClaim := { program := "ytpanajnlkacmdaa", sum := "17b552ff4c950333a09a3324bdfd57e86e3b68b49c8a9fce6d52978b213779df", func := "loop.example/g01126/laws.FnExactStepsOf", spec := "fnExactStepsOf", apart := false, narrowed := true }
def FnExactStepsOfUptoSaid : Prop := fnExactStepsOfUptoRow.holds Try.pinned (OpenSpec.upto fnExactStepsOfSpec)

end Rows
end Go.Proofs.Ytpanajnlkacmdaa
