/-
  No cell of these rows narrows 'for every input' (looked for: loops, veiled, ifaces, maps, wideKeys, modest, calm, conditions, laid).
  DERIVED. THE GIVEN ROWS OF THIS SEAT. 9 by the template 'for every input the law returns true; each argument reads behind the call as it read before'; 0 by the template 'total and deterministic' (their statements: YtpanajnlkacmdabTotals.lean).
  GIVEN WITH THE SEED: the statements are not yours to turn. If you find one false, say at which input.
  Laid BY PROGRAM, IN A SANDBOX (cutbox-rows.mjs): the forced cells as the released guide's own fill.sh prints them over the translation 7b00ddefb39e5074… (all of the seat's roots in one cut). By AI agents, Wed Nov 11 2026. No macro, syntax, notation, axiom, sorry.
-/
import Derived.Test.YtpanajnlkacmdabChecked
import GoSem.Claim
import GoSem.ClaimJoined
import GoSem.ClaimMapViews
import Derived.JoinedTies
import Derived.KernelRfl
namespace Go.Proofs.Ytpanajnlkacmdab
/- THE CELL 'sum', in the pinned program and in every row, IS THE sha256 OF THE DUMP (.gsa) THAT YtpanajnlkacmdabProg.lean LOADS. Nothing in Lean hashes anything: it is a label: what it is worth is what the hold of that sum in a sandbox is worth. -/
noncomputable def Try.pinned : Pinned := { name := "ytpanajnlkacmdab", sum := "7b00ddefb39e5074d970397bf7192c3c5e61889b3bb744915d00eaa436d6c292", checked := Try.checked }
namespace Rows
def none {H : Type} : Left H := { results := [], args := [] }

/-- 'laws.FnExactClosingWith': WHATEVER THE INPUT: true; the input reads as it did. -/
def fnExactClosingWithSpec : ChangeSpec := { name := "fnExactClosingWith", fn := fun _ => fun
  | [d] => { results := [.lit (.bool true)], args := [d] }
  | _ => none }
def fnExactClosingWithRow : OpenClaim := { program := "ytpanajnlkacmdab", sum := "7b00ddefb39e5074d970397bf7192c3c5e61889b3bb744915d00eaa436d6c292", func := "loop.example/g01126/laws.FnExactClosingWith", spec := "fnExactClosingWith", unfollowed := true, recurses := true, plainKeys := false, apart := false }
def FnExactClosingWithSaid : Prop := fnExactClosingWithRow.holds Try.pinned (OpenSpec.ofChange fnExactClosingWithSpec)

/-- ITS FALSE NEIGHBOUR: 'it returns false'. Refute it at one input. -/
def fnExactClosingWithWrong : ChangeSpec := { name := "fnExactClosingWith", fn := fun _ => fun
  | [d] => { results := [.lit (.bool false)], args := [d] }
  | _ => none }
def FnExactClosingWithWrongFalsely : Prop := fnExactClosingWithRow.holds Try.pinned (OpenSpec.ofChange fnExactClosingWithWrong)

/-- 'laws.FnExactCountClosing': WHATEVER THE INPUT: true; the input reads as it did. -/
def fnExactCountClosingSpec : ChangeSpec := { name := "fnExactCountClosing", fn := fun _ => fun
  | [d1, d2] => { results := [.lit (.bool true)], args := [d1, d2] }
  | _ => none }
def fnExactCountClosingRow : OpenClaim := { program := "ytpanajnlkacmdab", sum := "7b00ddefb39e5074d970397bf7192c3c5e61889b3bb744915d00eaa436d6c292", func := "loop.example/g01126/laws.FnExactCountClosing", spec := "fnExactCountClosing", unfollowed := true, recurses := true, plainKeys := false, apart := false }
def FnExactCountClosingSaid : Prop := fnExactCountClosingRow.holds Try.pinned (OpenSpec.ofChange fnExactCountClosingSpec)

/-- ITS FALSE NEIGHBOUR: 'it returns false'. Refute it at one input. -/
def fnExactCountClosingWrong : ChangeSpec := { name := "fnExactCountClosing", fn := fun _ => fun
  | [d1, d2] => { results := [.lit (.bool false)], args := [d1, d2] }
  | _ => none }
def FnExactCountClosingWrongFalsely : Prop := fnExactCountClosingRow.holds Try.pinned (OpenSpec.ofChange fnExactCountClosingWrong)

/-- 'laws.FnExactMeandersOf': WHATEVER THE INPUT: true; the input reads as it did. -/
def fnExactMeandersOfSpec : ChangeSpec := { name := "fnExactMeandersOf", fn := fun _ => fun
  | [d] => { results := [.lit (.bool true)], args := [d] }
  | _ => none }
def fnExactMeandersOfRow : OpenClaim := { program := "ytpanajnlkacmdab", sum := "7b00ddefb39e5074d970397bf7192c3c5e61889b3bb744915d00eaa436d6c292", func := "loop.example/g01126/laws.FnExactMeandersOf", spec := "fnExactMeandersOf", unfollowed := true, recurses := true, plainKeys := false, apart := false }
def FnExactMeandersOfSaid : Prop := fnExactMeandersOfRow.holds Try.pinned (OpenSpec.ofChange fnExactMeandersOfSpec)

/-- ITS FALSE NEIGHBOUR: 'it returns false'. Refute it at one input. -/
def fnExactMeandersOfWrong : ChangeSpec := { name := "fnExactMeandersOf", fn := fun _ => fun
  | [d] => { results := [.lit (.bool false)], args := [d] }
  | _ => none }
def FnExactMeandersOfWrongFalsely : Prop := fnExactMeandersOfRow.holds Try.pinned (OpenSpec.ofChange fnExactMeandersOfWrong)

/-- 'laws.FnExactCountMeanders': WHATEVER THE INPUT: true; the input reads as it did. -/
def fnExactCountMeandersSpec : ChangeSpec := { name := "fnExactCountMeanders", fn := fun _ => fun
  | [d] => { results := [.lit (.bool true)], args := [d] }
  | _ => none }
def fnExactCountMeandersRow : OpenClaim := { program := "ytpanajnlkacmdab", sum := "7b00ddefb39e5074d970397bf7192c3c5e61889b3bb744915d00eaa436d6c292", func := "loop.example/g01126/laws.FnExactCountMeanders", spec := "fnExactCountMeanders", unfollowed := true, recurses := true, plainKeys := false, apart := false }
def FnExactCountMeandersSaid : Prop := fnExactCountMeandersRow.holds Try.pinned (OpenSpec.ofChange fnExactCountMeandersSpec)

/-- ITS FALSE NEIGHBOUR: 'it returns false'. Refute it at one input. -/
def fnExactCountMeandersWrong : ChangeSpec := { name := "fnExactCountMeanders", fn := fun _ => fun
  | [d] => { results := [.lit (.bool false)], args := [d] }
  | _ => none }
def FnExactCountMeandersWrongFalsely : Prop := fnExactCountMeandersRow.holds Try.pinned (OpenSpec.ofChange fnExactCountMeandersWrong)

/-- 'laws.FnExactCountByComponents': WHATEVER THE INPUT: true; the input reads as it did. -/
def fnExactCountByComponentsSpec : ChangeSpec := { name := "fnExactCountByComponents", fn := fun _ => fun
  | [d] => { results := [.lit (.bool true)], args := [d] }
  | _ => none }
def fnExactCountByComponentsRow : OpenClaim := { program := "ytpanajnlkacmdab", sum := "7b00ddefb39e5074d970397bf7192c3c5e61889b3bb744915d00eaa436d6c292", func := "loop.example/g01126/laws.FnExactCountByComponents", spec := "fnExactCountByComponents", unfollowed := true, recurses := true, plainKeys := false, apart := false }
def FnExactCountByComponentsSaid : Prop := fnExactCountByComponentsRow.holds Try.pinned (OpenSpec.ofChange fnExactCountByComponentsSpec)

/-- ITS FALSE NEIGHBOUR: 'it returns false'. Refute it at one input. -/
def fnExactCountByComponentsWrong : ChangeSpec := { name := "fnExactCountByComponents", fn := fun _ => fun
  | [d] => { results := [.lit (.bool false)], args := [d] }
  | _ => none }
def FnExactCountByComponentsWrongFalsely : Prop := fnExactCountByComponentsRow.holds Try.pinned (OpenSpec.ofChange fnExactCountByComponentsWrong)

/-- 'laws.FnExactMeanderWith': WHATEVER THE INPUT: true; the input reads as it did. -/
def fnExactMeanderWithSpec : ChangeSpec := { name := "fnExactMeanderWith", fn := fun _ => fun
  | [d1, d2] => { results := [.lit (.bool true)], args := [d1, d2] }
  | _ => none }
def fnExactMeanderWithRow : OpenClaim := { program := "ytpanajnlkacmdab", sum := "7b00ddefb39e5074d970397bf7192c3c5e61889b3bb744915d00eaa436d6c292", func := "loop.example/g01126/laws.FnExactMeanderWith", spec := "fnExactMeanderWith", unfollowed := true, recurses := true, plainKeys := false, apart := false }
def FnExactMeanderWithSaid : Prop := fnExactMeanderWithRow.holds Try.pinned (OpenSpec.ofChange fnExactMeanderWithSpec)

/-- ITS FALSE NEIGHBOUR: 'it returns false'. Refute it at one input. -/
def fnExactMeanderWithWrong : ChangeSpec := { name := "fnExactMeanderWith", fn := fun _ => fun
  | [d1, d2] => { results := [.lit (.bool false)], args := [d1, d2] }
  | _ => none }
def FnExactMeanderWithWrongFalsely : Prop := fnExactMeanderWithRow.holds Try.pinned (OpenSpec.ofChange fnExactMeanderWithWrong)

/-- 'laws.FnExactRankMeander': WHATEVER THE INPUT: true; the input reads as it did. -/
def fnExactRankMeanderSpec : ChangeSpec := { name := "fnExactRankMeander", fn := fun _ => fun
  | [d] => { results := [.lit (.bool true)], args := [d] }
  | _ => none }
def fnExactRankMeanderRow : OpenClaim := { program := "ytpanajnlkacmdab", sum := "7b00ddefb39e5074d970397bf7192c3c5e61889b3bb744915d00eaa436d6c292", func := "loop.example/g01126/laws.FnExactRankMeander", spec := "fnExactRankMeander", unfollowed := true, recurses := true, plainKeys := false, apart := false }
def FnExactRankMeanderSaid : Prop := fnExactRankMeanderRow.holds Try.pinned (OpenSpec.ofChange fnExactRankMeanderSpec)

/-- ITS FALSE NEIGHBOUR: 'it returns false'. Refute it at one input. -/
def fnExactRankMeanderWrong : ChangeSpec := { name := "fnExactRankMeander", fn := fun _ => fun
  | [d] => { results := [.lit (.bool false)], args := [d] }
  | _ => none }
def FnExactRankMeanderWrongFalsely : Prop := fnExactRankMeanderRow.holds Try.pinned (OpenSpec.ofChange fnExactRankMeanderWrong)

/-- 'laws.FnExactCountByStates': WHATEVER THE INPUT: true; the input reads as it did. -/
def fnExactCountByStatesSpec : ChangeSpec := { name := "fnExactCountByStates", fn := fun _ => fun
  | [d] => { results := [.lit (.bool true)], args := [d] }
  | _ => none }
def fnExactCountByStatesRow : OpenClaim := { program := "ytpanajnlkacmdab", sum := "7b00ddefb39e5074d970397bf7192c3c5e61889b3bb744915d00eaa436d6c292", func := "loop.example/g01126/laws.FnExactCountByStates", spec := "fnExactCountByStates", unfollowed := true, recurses := true, plainKeys := false, apart := false }
def FnExactCountByStatesSaid : Prop := fnExactCountByStatesRow.holds Try.pinned (OpenSpec.ofChange fnExactCountByStatesSpec)

/-- ITS FALSE NEIGHBOUR: 'it returns false'. Refute it at one input. -/
def fnExactCountByStatesWrong : ChangeSpec := { name := "fnExactCountByStates", fn := fun _ => fun
  | [d] => { results := [.lit (.bool false)], args := [d] }
  | _ => none }
def FnExactCountByStatesWrongFalsely : Prop := fnExactCountByStatesRow.holds Try.pinned (OpenSpec.ofChange fnExactCountByStatesWrong)

/-- 'laws.FnExactMeandersByStates': WHATEVER THE INPUT: true; the input reads as it did. -/
def fnExactMeandersByStatesSpec : ChangeSpec := { name := "fnExactMeandersByStates", fn := fun _ => fun
  | [d] => { results := [.lit (.bool true)], args := [d] }
  | _ => none }
def fnExactMeandersByStatesRow : OpenClaim := { program := "ytpanajnlkacmdab", sum := "7b00ddefb39e5074d970397bf7192c3c5e61889b3bb744915d00eaa436d6c292", func := "loop.example/g01126/laws.FnExactMeandersByStates", spec := "fnExactMeandersByStates", unfollowed := true, recurses := true, plainKeys := false, apart := false }
def FnExactMeandersByStatesSaid : Prop := fnExactMeandersByStatesRow.holds Try.pinned (OpenSpec.ofChange fnExactMeandersByStatesSpec)

/-- ITS FALSE NEIGHBOUR: 'it returns false'. Refute it at one input. -/
def fnExactMeandersByStatesWrong : ChangeSpec := { name := "fnExactMeandersByStates", fn := fun _ => fun
  | [d] => { results := [.lit (.bool false)], args := [d] }
  | _ => none }
def FnExactMeandersByStatesWrongFalsely : Prop := fnExactMeandersByStatesRow.holds Try.pinned (OpenSpec.ofChange fnExactMeandersByStatesWrong)

/- THE SECOND FORM. 'bulk': how many values and letters a reading holds, each counted each time it is reached (what is shared counts as often as it is met; a slice's spare places count too). A statement '..UptoSaid' is the law's where the arguments, and the package variables that the reading takes, are together of bulk at most 1048576: NARROWER than '..Said'. Prove '..Said' where nothing that the law and all that it calls make is longer than what came in: it says more and counts as full. Else prove '..UptoSaid'. A law counts once. -/
mutual
def uptoBulk {H : Type} : DataW H → Nat
  | .lit (.string bytes) => bytes.length + 1
  | .lit _ => 1
  | .nil => 1
  | .ptr d => uptoBulk d + 1
  | .slice elems spare => uptoBulkAll elems + uptoBulkAll spare + 1
  | .agg parts => uptoBulkAll parts + 1
  | .iface _ d => uptoBulk d + 1
  | .map entries => uptoBulkEntries entries + 1
  | .held _ => 1
def uptoBulkAll {H : Type} : List (DataW H) → Nat
  | [] => 0
  | d :: r => uptoBulk d + uptoBulkAll r
def uptoBulkEntries {H : Type} : List (Lit × DataW H) → Nat
  | [] => 0
  | x :: r => uptoBulkEntry x + uptoBulkEntries r
def uptoBulkEntry {H : Type} : Lit × DataW H → Nat
  | (.string bytes, d) => bytes.length + uptoBulk d + 1
  | (_, d) => uptoBulk d + 1
 end
def uptoSmall : (H : Type) → List (DataW H) → Bool := fun _ ds => decide (uptoBulkAll ds ≤ 1048576)
def OpenSpec.upto (s : _root_.Go.ChangeSpec) : _root_.Go.OpenSpec := { _root_.Go.OpenSpec.ofChange s with cond := some uptoSmall }

/-- 'laws.FnExactClosingWith', WHERE WHAT IT READS IS OF BULK AT MOST 1048576: true; the input reads as it did. -/
def fnExactClosingWithUptoRow : OpenClaim := { program := "ytpanajnlkacmdab", sum := "7b00ddefb39e5074d970397bf7192c3c5e61889b3bb744915d00eaa436d6c292", func := "loop.example/g01126/laws.FnExactClosingWith", spec := "fnExactClosingWith", unfollowed := true, recurses := true, plainKeys := false, apart := false, narrowed := true }
def FnExactClosingWithUptoSaid : Prop := fnExactClosingWithUptoRow.holds Try.pinned (OpenSpec.upto fnExactClosingWithSpec)

/-- 'laws.FnExactCountClosing', WHERE WHAT IT READS IS OF BULK AT MOST 1048576: true; the input reads as it did. -/
def fnExactCountClosingUptoRow : OpenClaim := { program := "ytpanajnlkacmdab", sum := "7b00ddefb39e5074d970397bf7192c3c5e61889b3bb744915d00eaa436d6c292", func := "loop.example/g01126/laws.FnExactCountClosing", spec := "fnExactCountClosing", unfollowed := true, recurses := true, plainKeys := false, apart := false, narrowed := true }
def FnExactCountClosingUptoSaid : Prop := fnExactCountClosingUptoRow.holds Try.pinned (OpenSpec.upto fnExactCountClosingSpec)

/-- 'laws.FnExactMeandersOf', WHERE WHAT IT READS IS OF BULK AT MOST 1048576: true; the input reads as it did. -/
def fnExactMeandersOfUptoRow : OpenClaim := { program := "ytpanajnlkacmdab", sum := "7b00ddefb39e5074d970397bf7192c3c5e61889b3bb744915d00eaa436d6c292", func := "loop.example/g01126/laws.FnExactMeandersOf", spec := "fnExactMeandersOf", unfollowed := true, recurses := true, plainKeys := false, apart := false, narrowed := true }
def FnExactMeandersOfUptoSaid : Prop := fnExactMeandersOfUptoRow.holds Try.pinned (OpenSpec.upto fnExactMeandersOfSpec)

/-- 'laws.FnExactCountMeanders', WHERE WHAT IT READS IS OF BULK AT MOST 1048576: true; the input reads as it did. -/
def fnExactCountMeandersUptoRow : OpenClaim := { program := "ytpanajnlkacmdab", sum := "7b00ddefb39e5074d970397bf7192c3c5e61889b3bb744915d00eaa436d6c292", func := "loop.example/g01126/laws.FnExactCountMeanders", spec := "fnExactCountMeanders", unfollowed := true, recurses := true, plainKeys := false, apart := false, narrowed := true }
def FnExactCountMeandersUptoSaid : Prop := fnExactCountMeandersUptoRow.holds Try.pinned (OpenSpec.upto fnExactCountMeandersSpec)

/-- 'laws.FnExactCountByComponents', WHERE WHAT IT READS IS OF BULK AT MOST 1048576: true; the input reads as it did. -/
def fnExactCountByComponentsUptoRow : OpenClaim := { program := "ytpanajnlkacmdab", sum := "7b00ddefb39e5074d970397bf7192c3c5e61889b3bb744915d00eaa436d6c292", func := "loop.example/g01126/laws.FnExactCountByComponents", spec := "fnExactCountByComponents", unfollowed := true, recurses := true, plainKeys := false, apart := false, narrowed := true }
def FnExactCountByComponentsUptoSaid : Prop := fnExactCountByComponentsUptoRow.holds Try.pinned (OpenSpec.upto fnExactCountByComponentsSpec)

/-- 'laws.FnExactMeanderWith', WHERE WHAT IT READS IS OF BULK AT MOST 1048576: true; the input reads as it did. -/
def fnExactMeanderWithUptoRow : OpenClaim := { program := "ytpanajnlkacmdab", sum := "7b00ddefb39e5074d970397bf7192c3c5e61889b3bb744915d00eaa436d6c292", func := "loop.example/g01126/laws.FnExactMeanderWith", spec := "fnExactMeanderWith", unfollowed := true, recurses := true, plainKeys := false, apart := false, narrowed := true }
def FnExactMeanderWithUptoSaid : Prop := fnExactMeanderWithUptoRow.holds Try.pinned (OpenSpec.upto fnExactMeanderWithSpec)

/-- 'laws.FnExactRankMeander', WHERE WHAT IT READS IS OF BULK AT MOST 1048576: true; the input reads as it did. -/
def fnExactRankMeanderUptoRow : OpenClaim := { program := "ytpanajnlkacmdab", sum := "7b00ddefb39e5074d970397bf7192c3c5e61889b3bb744915d00eaa436d6c292", func := "loop.example/g01126/laws.FnExactRankMeander", spec := "fnExactRankMeander", unfollowed := true, recurses := true, plainKeys := false, apart := false, narrowed := true }
def FnExactRankMeanderUptoSaid : Prop := fnExactRankMeanderUptoRow.holds Try.pinned (OpenSpec.upto fnExactRankMeanderSpec)

/-- 'laws.FnExactCountByStates', WHERE WHAT IT READS IS OF BULK AT MOST 1048576: true; the input reads as it did. -/
def fnExactCountByStatesUptoRow : OpenClaim := { program := "ytpanajnlkacmdab", sum := "7b00ddefb39e5074d970397bf7192c3c5e61889b3bb744915d00eaa436d6c292", func := "loop.example/g01126/laws.FnExactCountByStates", spec := "fnExactCountByStates", unfollowed := true, recurses := true, plainKeys := false, apart := false, narrowed := true }
def FnExactCountByStatesUptoSaid : Prop := fnExactCountByStatesUptoRow.holds Try.pinned (OpenSpec.upto fnExactCountByStatesSpec)

/-- 'laws.FnExactMeandersByStates', WHERE WHAT IT READS IS OF BULK AT MOST 1048576: true; the input reads as it did. -/
def fnExactMeandersByStatesUptoRow : OpenClaim := { program := "ytpanajnlkacmdab", sum := "7b00ddefb39e5074d970397bf7192c3c5e61889b3bb744915d00eaa436d6c292", func := "loop.example/g01126/laws.FnExactMeandersByStates", spec := "fnExactMeandersByStates", unfollowed := true, recurses := true, plainKeys := false, apart := false, narrowed := true }
def FnExactMeandersByStatesUptoSaid : Prop := fnExactMeandersByStatesUptoRow.holds Try.pinned (OpenSpec.upto fnExactMeandersByStatesSpec)

end Rows
end Go.Proofs.Ytpanajnlkacmdab
