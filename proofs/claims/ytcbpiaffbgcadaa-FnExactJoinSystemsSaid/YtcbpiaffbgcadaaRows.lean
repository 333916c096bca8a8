/-
  No cell of these rows narrows 'for every input' (looked for: loops, veiled, ifaces, maps, wideKeys, modest, calm, conditions, laid).
  DERIVED. THE GIVEN ROWS OF THIS SEAT. 12 by the template 'for every input the law returns true; each argument reads behind the call as it read before'; 0 by the template 'total and deterministic' (their statements: YtcbpiaffbgcadaaTotals.lean).
  GIVEN WITH THE SEED: the statements are not yours to turn. If you find one false, say at which input.
  Laid BY PROGRAM, IN A SANDBOX (cutbox-rows.mjs): the forced cells as the released guide's own fill.sh prints them over the translation 925bbc68e21eb560… (all of the seat's roots in one cut). By AI agents, Wed Nov 11 2026. No macro, syntax, notation, axiom, sorry.
-/
import Derived.Test.YtcbpiaffbgcadaaChecked
import GoSem.Claim
import GoSem.ClaimJoined
import GoSem.ClaimMapViews
import Derived.JoinedTies
import Derived.KernelRfl
namespace Go.Proofs.Ytcbpiaffbgcadaa
/- THE CELL 'sum', in the pinned program and in every row, IS THE sha256 OF THE DUMP (.gsa) THAT YtcbpiaffbgcadaaProg.lean LOADS. Nothing in Lean hashes anything: it is a label: what it is worth is what the hold of that sum in a sandbox is worth. -/
noncomputable def Try.pinned : Pinned := { name := "ytcbpiaffbgcadaa", sum := "925bbc68e21eb56034ebba3d04564709ae44f65025b091fb6590a31ed6ff0a6c", checked := Try.checked }
namespace Rows
def none {H : Type} : Left H := { results := [], args := [] }

/-- 'laws.FnExactIsSystem': WHATEVER THE INPUT: true; the input reads as it did. -/
def fnExactIsSystemSpec : ChangeSpec := { name := "fnExactIsSystem", fn := fun _ => fun
  | [d] => { results := [.lit (.bool true)], args := [d] }
  | _ => none }
def fnExactIsSystemRow : OpenClaim := { program := "ytcbpiaffbgcadaa", sum := "925bbc68e21eb56034ebba3d04564709ae44f65025b091fb6590a31ed6ff0a6c", func := "loop.example/g01126/laws.FnExactIsSystem", spec := "fnExactIsSystem", apart := false }
def FnExactIsSystemSaid : Prop := fnExactIsSystemRow.holds Try.pinned (OpenSpec.ofChange fnExactIsSystemSpec)

/-- ITS FALSE NEIGHBOUR: 'it returns false'. Refute it at one input. -/
def fnExactIsSystemWrong : ChangeSpec := { name := "fnExactIsSystem", fn := fun _ => fun
  | [d] => { results := [.lit (.bool false)], args := [d] }
  | _ => none }
def FnExactIsSystemWrongFalsely : Prop := fnExactIsSystemRow.holds Try.pinned (OpenSpec.ofChange fnExactIsSystemWrong)

/-- 'laws.FnExactAllSystems': WHATEVER THE INPUT: true; the input reads as it did. -/
def fnExactAllSystemsSpec : ChangeSpec := { name := "fnExactAllSystems", fn := fun _ => fun
  | [d] => { results := [.lit (.bool true)], args := [d] }
  | _ => none }
def fnExactAllSystemsRow : OpenClaim := { program := "ytcbpiaffbgcadaa", sum := "925bbc68e21eb56034ebba3d04564709ae44f65025b091fb6590a31ed6ff0a6c", func := "loop.example/g01126/laws.FnExactAllSystems", spec := "fnExactAllSystems", recurses := true, apart := false }
def FnExactAllSystemsSaid : Prop := fnExactAllSystemsRow.holds Try.pinned (OpenSpec.ofChange fnExactAllSystemsSpec)

/-- ITS FALSE NEIGHBOUR: 'it returns false'. Refute it at one input. -/
def fnExactAllSystemsWrong : ChangeSpec := { name := "fnExactAllSystems", fn := fun _ => fun
  | [d] => { results := [.lit (.bool false)], args := [d] }
  | _ => none }
def FnExactAllSystemsWrongFalsely : Prop := fnExactAllSystemsRow.holds Try.pinned (OpenSpec.ofChange fnExactAllSystemsWrong)

/-- 'laws.FnExactCountSystems': WHATEVER THE INPUT: true; the input reads as it did. -/
def fnExactCountSystemsSpec : ChangeSpec := { name := "fnExactCountSystems", fn := fun _ => fun
  | [d] => { results := [.lit (.bool true)], args := [d] }
  | _ => none }
def fnExactCountSystemsRow : OpenClaim := { program := "ytcbpiaffbgcadaa", sum := "925bbc68e21eb56034ebba3d04564709ae44f65025b091fb6590a31ed6ff0a6c", func := "loop.example/g01126/laws.FnExactCountSystems", spec := "fnExactCountSystems", apart := false }
def FnExactCountSystemsSaid : Prop := fnExactCountSystemsRow.holds Try.pinned (OpenSpec.ofChange fnExactCountSystemsSpec)

/-- ITS FALSE NEIGHBOUR: 'it returns false'. Refute it at one input. -/
def fnExactCountSystemsWrong : ChangeSpec := { name := "fnExactCountSystems", fn := fun _ => fun
  | [d] => { results := [.lit (.bool false)], args := [d] }
  | _ => none }
def FnExactCountSystemsWrongFalsely : Prop := fnExactCountSystemsRow.holds Try.pinned (OpenSpec.ofChange fnExactCountSystemsWrong)

/-- 'laws.FnExactSystemWith': WHATEVER THE INPUT: true; the input reads as it did. -/
def fnExactSystemWithSpec : ChangeSpec := { name := "fnExactSystemWith", fn := fun _ => fun
  | [d1, d2] => { results := [.lit (.bool true)], args := [d1, d2] }
  | _ => none }
def fnExactSystemWithRow : OpenClaim := { program := "ytcbpiaffbgcadaa", sum := "925bbc68e21eb56034ebba3d04564709ae44f65025b091fb6590a31ed6ff0a6c", func := "loop.example/g01126/laws.FnExactSystemWith", spec := "fnExactSystemWith", recurses := true, apart := false }
def FnExactSystemWithSaid : Prop := fnExactSystemWithRow.holds Try.pinned (OpenSpec.ofChange fnExactSystemWithSpec)

/-- ITS FALSE NEIGHBOUR: 'it returns false'. Refute it at one input. -/
def fnExactSystemWithWrong : ChangeSpec := { name := "fnExactSystemWith", fn := fun _ => fun
  | [d1, d2] => { results := [.lit (.bool false)], args := [d1, d2] }
  | _ => none }
def FnExactSystemWithWrongFalsely : Prop := fnExactSystemWithRow.holds Try.pinned (OpenSpec.ofChange fnExactSystemWithWrong)

/-- 'laws.FnExactRankSystem': WHATEVER THE INPUT: true; the input reads as it did. -/
def fnExactRankSystemSpec : ChangeSpec := { name := "fnExactRankSystem", fn := fun _ => fun
  | [d] => { results := [.lit (.bool true)], args := [d] }
  | _ => none }
def fnExactRankSystemRow : OpenClaim := { program := "ytcbpiaffbgcadaa", sum := "925bbc68e21eb56034ebba3d04564709ae44f65025b091fb6590a31ed6ff0a6c", func := "loop.example/g01126/laws.FnExactRankSystem", spec := "fnExactRankSystem", recurses := true, apart := false }
def FnExactRankSystemSaid : Prop := fnExactRankSystemRow.holds Try.pinned (OpenSpec.ofChange fnExactRankSystemSpec)

/-- ITS FALSE NEIGHBOUR: 'it returns false'. Refute it at one input. -/
def fnExactRankSystemWrong : ChangeSpec := { name := "fnExactRankSystem", fn := fun _ => fun
  | [d] => { results := [.lit (.bool false)], args := [d] }
  | _ => none }
def FnExactRankSystemWrongFalsely : Prop := fnExactRankSystemRow.holds Try.pinned (OpenSpec.ofChange fnExactRankSystemWrong)

/-- 'laws.FnExactNextSystem': WHATEVER THE INPUT: true; the input reads as it did. -/
def fnExactNextSystemSpec : ChangeSpec := { name := "fnExactNextSystem", fn := fun _ => fun
  | [d] => { results := [.lit (.bool true)], args := [d] }
  | _ => none }
def fnExactNextSystemRow : OpenClaim := { program := "ytcbpiaffbgcadaa", sum := "925bbc68e21eb56034ebba3d04564709ae44f65025b091fb6590a31ed6ff0a6c", func := "loop.example/g01126/laws.FnExactNextSystem", spec := "fnExactNextSystem", recurses := true, apart := false }
def FnExactNextSystemSaid : Prop := fnExactNextSystemRow.holds Try.pinned (OpenSpec.ofChange fnExactNextSystemSpec)

/-- ITS FALSE NEIGHBOUR: 'it returns false'. Refute it at one input. -/
def fnExactNextSystemWrong : ChangeSpec := { name := "fnExactNextSystem", fn := fun _ => fun
  | [d] => { results := [.lit (.bool false)], args := [d] }
  | _ => none }
def FnExactNextSystemWrongFalsely : Prop := fnExactNextSystemRow.holds Try.pinned (OpenSpec.ofChange fnExactNextSystemWrong)

/-- 'laws.FnExactRainbowOf': WHATEVER THE INPUT: true; the input reads as it did. -/
def fnExactRainbowOfSpec : ChangeSpec := { name := "fnExactRainbowOf", fn := fun _ => fun
  | [d] => { results := [.lit (.bool true)], args := [d] }
  | _ => none }
def fnExactRainbowOfRow : OpenClaim := { program := "ytcbpiaffbgcadaa", sum := "925bbc68e21eb56034ebba3d04564709ae44f65025b091fb6590a31ed6ff0a6c", func := "loop.example/g01126/laws.FnExactRainbowOf", spec := "fnExactRainbowOf", apart := false }
def FnExactRainbowOfSaid : Prop := fnExactRainbowOfRow.holds Try.pinned (OpenSpec.ofChange fnExactRainbowOfSpec)

/-- ITS FALSE NEIGHBOUR: 'it returns false'. Refute it at one input. -/
def fnExactRainbowOfWrong : ChangeSpec := { name := "fnExactRainbowOf", fn := fun _ => fun
  | [d] => { results := [.lit (.bool false)], args := [d] }
  | _ => none }
def FnExactRainbowOfWrongFalsely : Prop := fnExactRainbowOfRow.holds Try.pinned (OpenSpec.ofChange fnExactRainbowOfWrong)

/-- 'laws.FnExactFlatOf': WHATEVER THE INPUT: true; the input reads as it did. -/
def fnExactFlatOfSpec : ChangeSpec := { name := "fnExactFlatOf", fn := fun _ => fun
  | [d] => { results := [.lit (.bool true)], args := [d] }
  | _ => none }
def fnExactFlatOfRow : OpenClaim := { program := "ytcbpiaffbgcadaa", sum := "925bbc68e21eb56034ebba3d04564709ae44f65025b091fb6590a31ed6ff0a6c", func := "loop.example/g01126/laws.FnExactFlatOf", spec := "fnExactFlatOf", apart := false }
def FnExactFlatOfSaid : Prop := fnExactFlatOfRow.holds Try.pinned (OpenSpec.ofChange fnExactFlatOfSpec)

/-- ITS FALSE NEIGHBOUR: 'it returns false'. Refute it at one input. -/
def fnExactFlatOfWrong : ChangeSpec := { name := "fnExactFlatOf", fn := fun _ => fun
  | [d] => { results := [.lit (.bool false)], args := [d] }
  | _ => none }
def FnExactFlatOfWrongFalsely : Prop := fnExactFlatOfRow.holds Try.pinned (OpenSpec.ofChange fnExactFlatOfWrong)

/-- 'laws.FnExactTurnSystem': WHATEVER THE INPUT: true; the input reads as it did. -/
def fnExactTurnSystemSpec : ChangeSpec := { name := "fnExactTurnSystem", fn := fun _ => fun
  | [d1, d2] => { results := [.lit (.bool true)], args := [d1, d2] }
  | _ => none }
def fnExactTurnSystemRow : OpenClaim := { program := "ytcbpiaffbgcadaa", sum := "925bbc68e21eb56034ebba3d04564709ae44f65025b091fb6590a31ed6ff0a6c", func := "loop.example/g01126/laws.FnExactTurnSystem", spec := "fnExactTurnSystem", unfollowed := true, recurses := true, apart := false }
def FnExactTurnSystemSaid : Prop := fnExactTurnSystemRow.holds Try.pinned (OpenSpec.ofChange fnExactTurnSystemSpec)

/-- ITS FALSE NEIGHBOUR: 'it returns false'. Refute it at one input. -/
def fnExactTurnSystemWrong : ChangeSpec := { name := "fnExactTurnSystem", fn := fun _ => fun
  | [d1, d2] => { results := [.lit (.bool false)], args := [d1, d2] }
  | _ => none }
def FnExactTurnSystemWrongFalsely : Prop := fnExactTurnSystemRow.holds Try.pinned (OpenSpec.ofChange fnExactTurnSystemWrong)

/-- 'laws.FnExactMirrorSystem': WHATEVER THE INPUT: true; the input reads as it did. -/
def fnExactMirrorSystemSpec : ChangeSpec := { name := "fnExactMirrorSystem", fn := fun _ => fun
  | [d] => { results := [.lit (.bool true)], args := [d] }
  | _ => none }
def fnExactMirrorSystemRow : OpenClaim := { program := "ytcbpiaffbgcadaa", sum := "925bbc68e21eb56034ebba3d04564709ae44f65025b091fb6590a31ed6ff0a6c", func := "loop.example/g01126/laws.FnExactMirrorSystem", spec := "fnExactMirrorSystem", unfollowed := true, recurses := true, apart := false }
def FnExactMirrorSystemSaid : Prop := fnExactMirrorSystemRow.holds Try.pinned (OpenSpec.ofChange fnExactMirrorSystemSpec)

/-- ITS FALSE NEIGHBOUR: 'it returns false'. Refute it at one input. -/
def fnExactMirrorSystemWrong : ChangeSpec := { name := "fnExactMirrorSystem", fn := fun _ => fun
  | [d] => { results := [.lit (.bool false)], args := [d] }
  | _ => none }
def FnExactMirrorSystemWrongFalsely : Prop := fnExactMirrorSystemRow.holds Try.pinned (OpenSpec.ofChange fnExactMirrorSystemWrong)

/-- 'laws.FnExactJoinSystems': WHATEVER THE INPUT: true; the input reads as it did. -/
def fnExactJoinSystemsSpec : ChangeSpec := { name := "fnExactJoinSystems", fn := fun _ => fun
  | [d1, d2] => { results := [.lit (.bool true)], args := [d1, d2] }
  | _ => none }
def fnExactJoinSystemsRow : OpenClaim := { program := "ytcbpiaffbgcadaa", sum := "925bbc68e21eb56034ebba3d04564709ae44f65025b091fb6590a31ed6ff0a6c", func := "loop.example/g01126/laws.FnExactJoinSystems", spec := "fnExactJoinSystems", unfollowed := true, recurses := true, apart := false }
def FnExactJoinSystemsSaid : Prop := fnExactJoinSystemsRow.holds Try.pinned (OpenSpec.ofChange fnExactJoinSystemsSpec)

/-- ITS FALSE NEIGHBOUR: 'it returns false'. Refute it at one input. -/
def fnExactJoinSystemsWrong : ChangeSpec := { name := "fnExactJoinSystems", fn := fun _ => fun
  | [d1, d2] => { results := [.lit (.bool false)], args := [d1, d2] }
  | _ => none }
def FnExactJoinSystemsWrongFalsely : Prop := fnExactJoinSystemsRow.holds Try.pinned (OpenSpec.ofChange fnExactJoinSystemsWrong)

/-- 'laws.FnExactCoverSystem': WHATEVER THE INPUT: true; the input reads as it did. -/
def fnExactCoverSystemSpec : ChangeSpec := { name := "fnExactCoverSystem", fn := fun _ => fun
  | [d] => { results := [.lit (.bool true)], args := [d] }
  | _ => none }
def fnExactCoverSystemRow : OpenClaim := { program := "ytcbpiaffbgcadaa", sum := "925bbc68e21eb56034ebba3d04564709ae44f65025b091fb6590a31ed6ff0a6c", func := "loop.example/g01126/laws.FnExactCoverSystem", spec := "fnExactCoverSystem", unfollowed := true, recurses := true, apart := false }
def FnExactCoverSystemSaid : Prop := fnExactCoverSystemRow.holds Try.pinned (OpenSpec.ofChange fnExactCoverSystemSpec)

/-- ITS FALSE NEIGHBOUR: 'it returns false'. Refute it at one input. -/
def fnExactCoverSystemWrong : ChangeSpec := { name := "fnExactCoverSystem", fn := fun _ => fun
  | [d] => { results := [.lit (.bool false)], args := [d] }
  | _ => none }
def FnExactCoverSystemWrongFalsely : Prop := fnExactCoverSystemRow.holds Try.pinned (OpenSpec.ofChange fnExactCoverSystemWrong)

/- THE SECOND FORM. 'bulk': how many values and letters a reading holds, each counted each time it is reached (what is shared counts as often as it is met; a slice's spare places count too). A statement '..UptoSaid' is the law's where the arguments, and the package variables that the reading takes, are together of bulk at most 1048576: NARROWER than '..Said'. Prove '..Said' where nothing that the law and all that it calls make is longer than what came in: it says more and counts as full. Else prove '..UptoSaid'. A law counts once. -/
mutual
def uptoBulk {H : Type} : DataW H → Nat
  | .lit (.string bytes) => bytes.length + 1
  | .lit _ => 1
  | .nil => 1
  | .ptr d => uptoBulk d + 1
  | .slice elems spare => uptoBulkAll elems + uptoBulkAll spare + 1
  | .agg parts => uptoBulkAll parts + 1
  | .iface _ d => uptoBulk d + 1
  | .map entries => uptoBulkEntries entries + 1
  | .held _ => 1
def uptoBulkAll {H : Type} : List (DataW H) → Nat
  | [] => 0
  | d :: r => uptoBulk d + uptoBulkAll r
def uptoBulkEntries {H : Type} : List (Lit × DataW H) → Nat
  | [] => 0
  | x :: r => uptoBulkEntry x + uptoBulkEntries r
def uptoBulkEntry {H : Type} : Lit × DataW H → Nat
  | (.string bytes, d) => bytes.length + uptoBulk d + 1
  | (_, d) => uptoBulk d + 1
 end
def uptoSmall : (H : Type) → List (DataW H) → Bool := fun _ ds => decide (uptoBulkAll ds ≤ 1048576)
def OpenSpec.upto (s : _root_.Go.ChangeSpec) : _root_.Go.OpenSpec := { _root_.Go.OpenSpec.ofChange s with cond := some uptoSmall }

/-- 'laws.FnExactIsSystem', WHERE WHAT IT READS IS OF BULK AT MOST 1048576: true; the input reads as it did. -/
def fnExactIsSystemUptoRow : OpenClaim := { program := "ytcbpiaffbgcadaa", sum := "925bbc68e21eb56034ebba3d04564709ae44f65025b091fb6590a31ed6ff0a6c", func := "loop.example/g01126/laws.FnExactIsSystem", spec := "fnExactIsSystem", apart := false, narrowed := true }
def FnExactIsSystemUptoSaid : Prop := fnExactIsSystemUptoRow.holds Try.pinned (OpenSpec.upto fnExactIsSystemSpec)

/-- 'laws.FnExactAllSystems', WHERE WHAT IT READS IS OF BULK AT MOST 1048576: true; the input reads as it did. -/
def fnExactAllSystemsUptoRow : OpenClaim := { program := "ytcbpiaffbgcadaa", sum := "925bbc68e21eb56034ebba3d04564709ae44f65025b091fb6590a31ed6ff0a6c", func := "loop.example/g01126/laws.FnExactAllSystems", spec := "fnExactAllSystems", recurses := true, apart := false, narrowed := true }
def FnExactAllSystemsUptoSaid : Prop := fnExactAllSystemsUptoRow.holds Try.pinned (OpenSpec.upto fnExactAllSystemsSpec)

/-- 'laws.FnExactCountSystems', WHERE WHAT IT READS IS OF BULK AT MOST 1048576: true; the input reads as it did. -/
def fnExactCountSystemsUptoRow : OpenClaim := { program := "ytcbpiaffbgcadaa", sum := "925bbc68e21eb56034ebba3d04564709ae44f65025b091fb6590a31ed6ff0a6c", func := "loop.example/g01126/laws.FnExactCountSystems", spec := "fnExactCountSystems", apart := false, narrowed := true }
def FnExactCountSystemsUptoSaid : Prop := fnExactCountSystemsUptoRow.holds Try.pinned (OpenSpec.upto fnExactCountSystemsSpec)

/-- 'laws.FnExactSystemWith', WHERE WHAT IT READS IS OF BULK AT MOST 1048576: true; the input reads as it did. -/
def fnExactSystemWithUptoRow : OpenClaim := { program := "ytcbpiaffbgcadaa", sum := "925bbc68e21eb56034ebba3d04564709ae44f65025b091fb6590a31ed6ff0a6c", func := "loop.example/g01126/laws.FnExactSystemWith", spec := "fnExactSystemWith", recurses := true, apart := false, narrowed := true }
def FnExactSystemWithUptoSaid : Prop := fnExactSystemWithUptoRow.holds Try.pinned (OpenSpec.upto fnExactSystemWithSpec)

/-- 'laws.FnExactRankSystem', WHERE WHAT IT READS IS OF BULK AT MOST 1048576: true; the input reads as it did. -/
def fnExactRankSystemUptoRow : OpenClaim := { program := "ytcbpiaffbgcadaa", sum := "925bbc68e21eb56034ebba3d04564709ae44f65025b091fb6590a31ed6ff0a6c", func := "loop.example/g01126/laws.FnExactRankSystem", spec := "fnExactRankSystem", recurses := true, apart := false, narrowed := true }
def FnExactRankSystemUptoSaid : Prop := fnExactRankSystemUptoRow.holds Try.pinned (OpenSpec.upto fnExactRankSystemSpec)

/-- 'laws.FnExactNextSystem', WHERE WHAT IT READS IS OF BULK AT MOST 1048576: true; the input reads as it did. -/
def fnExactNextSystemUptoRow : OpenClaim := { program := "ytcbpiaffbgcadaa", sum := "925bbc68e21eb56034ebba3d04564709ae44f65025b091fb6590a31ed6ff0a6c", func := "loop.example/g01126/laws.FnExactNextSystem", spec := "fnExactNextSystem", recurses := true, apart := false, narrowed := true }
def FnExactNextSystemUptoSaid : Prop := fnExactNextSystemUptoRow.holds Try.pinned (OpenSpec.upto fnExactNextSystemSpec)

/-- 'laws.FnExactRainbowOf', WHERE WHAT IT READS IS OF BULK AT MOST 1048576: true; the input reads as it did. -/
def fnExactRainbowOfUptoRow : OpenClaim := { program := "ytcbpiaffbgcadaa", sum := "925bbc68e21eb56034ebba3d04564709ae44f65025b091fb6590a31ed6ff0a6c", func := "loop.example/g01126/laws.FnExactRainbowOf", spec := "fnExactRainbowOf", apart := false, narrowed := true }
def FnExactRainbowOfUptoSaid : Prop := fnExactRainbowOfUptoRow.holds Try.pinned (OpenSpec.upto fnExactRainbowOfSpec)

/-- 'laws.FnExactFlatOf', WHERE WHAT IT READS IS OF BULK AT MOST 1048576: true; the input reads as it did. -/
def fnExactFlatOfUptoRow : OpenClaim := { program := "ytcbpiaffbgcadaa", sum := "925bbc68e21eb56034ebba3d04564709ae44f65025b091fb6590a31ed6ff0a6c", func := "loop.example/g01126/laws.FnExactFlatOf", spec := "fnExactFlatOf", apart := false, narrowed := true }
def FnExactFlatOfUptoSaid : Prop := fnExactFlatOfUptoRow.holds Try.pinned (OpenSpec.upto fnExactFlatOfSpec)

/-- 'laws.FnExactTurnSystem', WHERE WHAT IT READS IS OF BULK AT MOST 1048576: true; the input reads as it did. -/
def fnExactTurnSystemUptoRow : OpenClaim := { program := "ytcbpiaffbgcadaa", sum := "925bbc68e21eb56034ebba3d04564709ae44f65025b091fb6590a31ed6ff0a6c", func := "loop.example/g01126/laws.FnExactTurnSystem", spec := "fnExactTurnSystem", unfollowed := true, recurses := true, apart := false, narrowed := true }
def FnExactTurnSystemUptoSaid : Prop := fnExactTurnSystemUptoRow.holds Try.pinned (OpenSpec.upto fnExactTurnSystemSpec)

/-- 'laws.FnExactMirrorSystem', WHERE WHAT IT READS IS OF BULK AT MOST 1048576: true; the input reads as it did. -/
def fnExactMirrorSystemUptoRow : OpenClaim := { program := "ytcbpiaffbgcadaa", sum := "925bbc68e21eb56034ebba3d04564709ae44f65025b091fb6590a31ed6ff0a6c", func := "loop.example/g01126/laws.FnExactMirrorSystem", spec := "fnExactMirrorSystem", unfollowed := true, recurses := true, apart := false, narrowed := true }
def FnExactMirrorSystemUptoSaid : Prop := fnExactMirrorSystemUptoRow.holds Try.pinned (OpenSpec.upto fnExactMirrorSystemSpec)

/-- 'laws.FnExactJoinSystems', WHERE WHAT IT READS IS OF BULK AT MOST 1048576: true; the input reads as it did. -/
def fnExactJoinSystemsUptoRow : OpenClaim := { program := "ytcbpiaffbgcadaa", sum := "925bbc68e21eb56034ebba3d04564709ae44f65025b091fb6590a31ed6ff0a6c", func := "loop.example/g01126/laws.FnExactJoinSystems", spec := "fnExactJoinSystems", unfollowed := true, recurses := true, apart := false, narrowed := true }
def FnExactJoinSystemsUptoSaid : Prop := fnExactJoinSystemsUptoRow.holds Try.pinned (OpenSpec.upto fnExactJoinSystemsSpec)

/-- 'laws.FnExactCoverSystem', WHERE WHAT IT READS IS OF BULK AT MOST 1048576: true; the input reads as it did. -/
def fnExactCoverSystemUptoRow : OpenClaim := { program := "ytcbpiaffbgcadaa", sum := "925bbc68e21eb56034ebba3d04564709ae44f65025b091fb6590a31ed6ff0a6c", func := "loop.example/g01126/laws.FnExactCoverSystem", spec := "fnExactCoverSystem", unfollowed := true, recurses := true, apart := false, narrowed := true }
def FnExactCoverSystemUptoSaid : Prop := fnExactCoverSystemUptoRow.holds Try.pinned (OpenSpec.upto fnExactCoverSystemSpec)

end Rows
end Go.Proofs.Ytcbpiaffbgcadaa
