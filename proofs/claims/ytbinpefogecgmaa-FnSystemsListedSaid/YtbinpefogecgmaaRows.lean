/-
  No cell of these rows narrows 'for every input' (looked for: loops, veiled, ifaces, maps, wideKeys, modest, calm, conditions, laid).
  DERIVED. THE GIVEN ROWS OF THIS SEAT. 4 by the template 'for every input the law returns true; each argument reads behind the call as it read before'; 0 by the template 'total and deterministic' (their statements: YtbinpefogecgmaaTotals.lean).
  GIVEN WITH THE SEED: the statements are not yours to turn. If you find one false, say at which input.
  Laid BY PROGRAM, IN A SANDBOX (cutbox-rows.mjs): the forced cells as the released guide's own fill.sh prints them over the translation b8c168aab5d0f0e3… (all of the seat's roots in one cut). By AI agents, Wed Nov 11 2026. No macro, syntax, notation, axiom, sorry.
-/
import Derived.Test.YtbinpefogecgmaaChecked
import GoSem.Claim
import GoSem.ClaimJoined
import GoSem.ClaimMapViews
import Derived.JoinedTies
import Derived.KernelRfl
namespace Go.Proofs.Ytbinpefogecgmaa
/- THE CELL 'sum', in the pinned program and in every row, IS THE sha256 OF THE DUMP (.gsa) THAT YtbinpefogecgmaaProg.lean LOADS. Nothing in Lean hashes anything: it is a label: what it is worth is what the hold of that sum in a sandbox is worth. -/
noncomputable def Try.pinned : Pinned := { name := "ytbinpefogecgmaa", sum := "b8c168aab5d0f0e35e08c11fc355c411a226a04ca68de57795c90620d398fb0e", checked := Try.checked }
namespace Rows
def none {H : Type} : Left H := { results := [], args := [] }

/-- 'laws.FnSystemsListed': WHATEVER THE INPUT: true; the input reads as it did. -/
def fnSystemsListedSpec : ChangeSpec := { name := "fnSystemsListed", fn := fun _ => fun
  | [d1, d2] => { results := [.lit (.bool true)], args := [d1, d2] }
  | _ => none }
def fnSystemsListedRow : OpenClaim := { program := "ytbinpefogecgmaa", sum := "b8c168aab5d0f0e35e08c11fc355c411a226a04ca68de57795c90620d398fb0e", func := "loop.example/g01126/laws.FnSystemsListed", spec := "fnSystemsListed", recurses := true, apart := false }
def FnSystemsListedSaid : Prop := fnSystemsListedRow.holds Try.pinned (OpenSpec.ofChange fnSystemsListedSpec)

/-- ITS FALSE NEIGHBOUR: 'it returns false'. Refute it at one input. -/
def fnSystemsListedWrong : ChangeSpec := { name := "fnSystemsListed", fn := fun _ => fun
  | [d1, d2] => { results := [.lit (.bool false)], args := [d1, d2] }
  | _ => none }
def FnSystemsListedWrongFalsely : Prop := fnSystemsListedRow.holds Try.pinned (OpenSpec.ofChange fnSystemsListedWrong)

/-- 'laws.FnSystemsMoved': WHATEVER THE INPUT: true; the input reads as it did. -/
def fnSystemsMovedSpec : ChangeSpec := { name := "fnSystemsMoved", fn := fun _ => fun
  | [d1, d2] => { results := [.lit (.bool true)], args := [d1, d2] }
  | _ => none }
def fnSystemsMovedRow : OpenClaim := { program := "ytbinpefogecgmaa", sum := "b8c168aab5d0f0e35e08c11fc355c411a226a04ca68de57795c90620d398fb0e", func := "loop.example/g01126/laws.FnSystemsMoved", spec := "fnSystemsMoved", unfollowed := true, recurses := true, apart := false }
def FnSystemsMovedSaid : Prop := fnSystemsMovedRow.holds Try.pinned (OpenSpec.ofChange fnSystemsMovedSpec)

/-- ITS FALSE NEIGHBOUR: 'it returns false'. Refute it at one input. -/
def fnSystemsMovedWrong : ChangeSpec := { name := "fnSystemsMoved", fn := fun _ => fun
  | [d1, d2] => { results := [.lit (.bool false)], args := [d1, d2] }
  | _ => none }
def FnSystemsMovedWrongFalsely : Prop := fnSystemsMovedRow.holds Try.pinned (OpenSpec.ofChange fnSystemsMovedWrong)

/-- 'laws.FnArchesPut': WHATEVER THE INPUT: true; the input reads as it did. -/
def fnArchesPutSpec : ChangeSpec := { name := "fnArchesPut", fn := fun _ => fun
  | [d1, d2] => { results := [.lit (.bool true)], args := [d1, d2] }
  | _ => none }
def fnArchesPutRow : OpenClaim := { program := "ytbinpefogecgmaa", sum := "b8c168aab5d0f0e35e08c11fc355c411a226a04ca68de57795c90620d398fb0e", func := "loop.example/g01126/laws.FnArchesPut", spec := "fnArchesPut", unfollowed := true, recurses := true, apart := false }
def FnArchesPutSaid : Prop := fnArchesPutRow.holds Try.pinned (OpenSpec.ofChange fnArchesPutSpec)

/-- ITS FALSE NEIGHBOUR: 'it returns false'. Refute it at one input. -/
def fnArchesPutWrong : ChangeSpec := { name := "fnArchesPut", fn := fun _ => fun
  | [d1, d2] => { results := [.lit (.bool false)], args := [d1, d2] }
  | _ => none }
def FnArchesPutWrongFalsely : Prop := fnArchesPutRow.holds Try.pinned (OpenSpec.ofChange fnArchesPutWrong)

/-- 'laws.FnComponentsWalked': WHATEVER THE INPUT: true; the input reads as it did. -/
def fnComponentsWalkedSpec : ChangeSpec := { name := "fnComponentsWalked", fn := fun _ => fun
  | [d1, d2] => { results := [.lit (.bool true)], args := [d1, d2] }
  | _ => none }
def fnComponentsWalkedRow : OpenClaim := { program := "ytbinpefogecgmaa", sum := "b8c168aab5d0f0e35e08c11fc355c411a226a04ca68de57795c90620d398fb0e", func := "loop.example/g01126/laws.FnComponentsWalked", spec := "fnComponentsWalked", unfollowed := true, recurses := true, apart := false }
def FnComponentsWalkedSaid : Prop := fnComponentsWalkedRow.holds Try.pinned (OpenSpec.ofChange fnComponentsWalkedSpec)

/-- ITS FALSE NEIGHBOUR: 'it returns false'. Refute it at one input. -/
def fnComponentsWalkedWrong : ChangeSpec := { name := "fnComponentsWalked", fn := fun _ => fun
  | [d1, d2] => { results := [.lit (.bool false)], args := [d1, d2] }
  | _ => none }
def FnComponentsWalkedWrongFalsely : Prop := fnComponentsWalkedRow.holds Try.pinned (OpenSpec.ofChange fnComponentsWalkedWrong)

/- THE SECOND FORM. 'bulk': how many values and letters a reading holds, each counted each time it is reached (what is shared counts as often as it is met; a slice's spare places count too). A statement '..UptoSaid' is the law's where the arguments, and the package variables that the reading takes, are together of bulk at most 1048576: NARROWER than '..Said'. Prove '..Said' where nothing that the law and all that it calls make is longer than what came in: it says more and counts as full. Else prove '..UptoSaid'. A law counts once. -/
mutual
def uptoBulk {H : Type} : DataW H → Nat
  | .lit (.string bytes) => bytes.length + 1
  | .lit _ => 1
  | .nil => 1
  | .ptr d => uptoBulk d + 1
  | .slice elems spare => uptoBulkAll elems + uptoBulkAll spare + 1
  | .agg parts => uptoBulkAll parts + 1
  | .iface _ d => uptoBulk d + 1
  | .map entries => uptoBulkEntries entries + 1
  | .held _ => 1
def uptoBulkAll {H : Type} : List (DataW H) → Nat
  | [] => 0
  | d :: r => uptoBulk d + uptoBulkAll r
def uptoBulkEntries {H : Type} : List (Lit × DataW H) → Nat
  | [] => 0
  | x :: r => uptoBulkEntry x + uptoBulkEntries r
def uptoBulkEntry {H : Type} : Lit × DataW H → Nat
  | (.string bytes, d) => bytes.length + uptoBulk d + 1
  | (_, d) => uptoBulk d + 1
 end
def uptoSmall : (H : Type) → List (DataW H) → Bool := fun _ ds => decide (uptoBulkAll ds ≤ 1048576)
def OpenSpec.upto (s : _root_.Go.ChangeSpec) : _root_.Go.OpenSpec := { _root_.Go.OpenSpec.ofChange s with cond := some uptoSmall }

/-- 'laws.FnSystemsListed', WHERE WHAT IT READS IS OF BULK AT MOST 1048576: true; the input reads as it did. -/
def fnSystemsListedUptoRow : OpenClaim := { program := "ytbinpefogecgmaa", sum := "b8c168aab5d0f0e35e08c11fc355c411a226a04ca68de57795c90620d398fb0e", func := "loop.example/g01126/laws.FnSystemsListed", spec := "fnSystemsListed", recurses := true, apart := false, narrowed := true }
def FnSystemsListedUptoSaid : Prop := fnSystemsListedUptoRow.holds Try.pinned (OpenSpec.upto fnSystemsListedSpec)

/-- 'laws.FnSystemsMoved', WHERE WHAT IT READS IS OF BULK AT MOST 1048576: true; the input reads as it did. -/
def fnSystemsMovedUptoRow : OpenClaim := { program := "ytbinpefogecgmaa", sum := "b8c168aab5d0f0e35e08c11fc355c411a226a04ca68de57795c90620d398fb0e", func := "loop.example/g01126/laws.FnSystemsMoved", spec := "fnSystemsMoved", unfollowed := true, recurses := true, apart := false, narrowed := true }
def FnSystemsMovedUptoSaid : Prop := fnSystemsMovedUptoRow.holds Try.pinned (OpenSpec.upto fnSystemsMovedSpec)

/-- 'laws.FnArchesPut', WHERE WHAT IT READS IS OF BULK AT MOST 1048576: true; the input reads as it did. -/
def fnArchesPutUptoRow : OpenClaim := { program := "ytbinpefogecgmaa", sum := "b8c168aab5d0f0e35e08c11fc355c411a226a04ca68de57795c90620d398fb0e", func := "loop.example/g01126/laws.FnArchesPut", spec := "fnArchesPut", unfollowed := true, recurses := true, apart := false, narrowed := true }
def FnArchesPutUptoSaid : Prop := fnArchesPutUptoRow.holds Try.pinned (OpenSpec.upto fnArchesPutSpec)

/-- 'laws.FnComponentsWalked', WHERE WHAT IT READS IS OF BULK AT MOST 1048576: true; the input reads as it did. -/
def fnComponentsWalkedUptoRow : OpenClaim := { program := "ytbinpefogecgmaa", sum := "b8c168aab5d0f0e35e08c11fc355c411a226a04ca68de57795c90620d398fb0e", func := "loop.example/g01126/laws.FnComponentsWalked", spec := "fnComponentsWalked", unfollowed := true, recurses := true, apart := false, narrowed := true }
def FnComponentsWalkedUptoSaid : Prop := fnComponentsWalkedUptoRow.holds Try.pinned (OpenSpec.upto fnComponentsWalkedSpec)

end Rows
end Go.Proofs.Ytbinpefogecgmaa
