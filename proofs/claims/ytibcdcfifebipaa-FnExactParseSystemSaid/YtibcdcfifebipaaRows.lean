/-
  No cell of these rows narrows 'for every input' (looked for: loops, veiled, ifaces, maps, wideKeys, modest, calm, conditions, laid).
  DERIVED. THE GIVEN ROWS OF THIS SEAT. 8 by the template 'for every input the law returns true; each argument reads behind the call as it read before'; 0 by the template 'total and deterministic' (their statements: YtibcdcfifebipaaTotals.lean).
  GIVEN WITH THE SEED: the statements are not yours to turn. If you find one false, say at which input.
  Laid BY PROGRAM, IN A SANDBOX (cutbox-rows.mjs): the forced cells as the released guide's own fill.sh prints them over the translation b93f2b01dee916b8… (all of the seat's roots in one cut). By AI agents, Wed Nov 11 2026. No macro, syntax, notation, axiom, sorry.
-/
import Derived.Test.YtibcdcfifebipaaChecked
import GoSem.Claim
import GoSem.ClaimJoined
import GoSem.ClaimMapViews
import Derived.JoinedTies
import Derived.KernelRfl
namespace Go.Proofs.Ytibcdcfifebipaa
/- THE CELL 'sum', in the pinned program and in every row, IS THE sha256 OF THE DUMP (.gsa) THAT YtibcdcfifebipaaProg.lean LOADS. Nothing in Lean hashes anything: it is a label: what it is worth is what the hold of that sum in a sandbox is worth. -/
noncomputable def Try.pinned : Pinned := { name := "ytibcdcfifebipaa", sum := "b93f2b01dee916b82652885d6bc401626bb8ee49108b365ab1953adde4f905f1", checked := Try.checked }
namespace Rows
def none {H : Type} : Left H := { results := [], args := [] }

/-- 'laws.FnExactDropArch': WHATEVER THE INPUT: true; the input reads as it did. -/
def fnExactDropArchSpec : ChangeSpec := { name := "fnExactDropArch", fn := fun _ => fun
  | [d1, d2] => { results := [.lit (.bool true)], args := [d1, d2] }
  | _ => none }
def fnExactDropArchRow : OpenClaim := { program := "ytibcdcfifebipaa", sum := "b93f2b01dee916b82652885d6bc401626bb8ee49108b365ab1953adde4f905f1", func := "loop.example/g01126/laws.FnExactDropArch", spec := "fnExactDropArch", apart := false }
def FnExactDropArchSaid : Prop := fnExactDropArchRow.holds Try.pinned (OpenSpec.ofChange fnExactDropArchSpec)

/-- ITS FALSE NEIGHBOUR: 'it returns false'. Refute it at one input. -/
def fnExactDropArchWrong : ChangeSpec := { name := "fnExactDropArch", fn := fun _ => fun
  | [d1, d2] => { results := [.lit (.bool false)], args := [d1, d2] }
  | _ => none }
def FnExactDropArchWrongFalsely : Prop := fnExactDropArchRow.holds Try.pinned (OpenSpec.ofChange fnExactDropArchWrong)

/-- 'laws.FnExactPutArch': WHATEVER THE INPUT: true; the input reads as it did. -/
def fnExactPutArchSpec : ChangeSpec := { name := "fnExactPutArch", fn := fun _ => fun
  | [d1, d2, d3] => { results := [.lit (.bool true)], args := [d1, d2, d3] }
  | _ => none }
def fnExactPutArchRow : OpenClaim := { program := "ytibcdcfifebipaa", sum := "b93f2b01dee916b82652885d6bc401626bb8ee49108b365ab1953adde4f905f1", func := "loop.example/g01126/laws.FnExactPutArch", spec := "fnExactPutArch", unfollowed := true, recurses := true, apart := false }
def FnExactPutArchSaid : Prop := fnExactPutArchRow.holds Try.pinned (OpenSpec.ofChange fnExactPutArchSpec)

/-- ITS FALSE NEIGHBOUR: 'it returns false'. Refute it at one input. -/
def fnExactPutArchWrong : ChangeSpec := { name := "fnExactPutArch", fn := fun _ => fun
  | [d1, d2, d3] => { results := [.lit (.bool false)], args := [d1, d2, d3] }
  | _ => none }
def FnExactPutArchWrongFalsely : Prop := fnExactPutArchRow.holds Try.pinned (OpenSpec.ofChange fnExactPutArchWrong)

/-- 'laws.FnExactSystemText': WHATEVER THE INPUT: true; the input reads as it did. -/
def fnExactSystemTextSpec : ChangeSpec := { name := "fnExactSystemText", fn := fun _ => fun
  | [d] => { results := [.lit (.bool true)], args := [d] }
  | _ => none }
def fnExactSystemTextRow : OpenClaim := { program := "ytibcdcfifebipaa", sum := "b93f2b01dee916b82652885d6bc401626bb8ee49108b365ab1953adde4f905f1", func := "loop.example/g01126/laws.FnExactSystemText", spec := "fnExactSystemText", apart := false }
def FnExactSystemTextSaid : Prop := fnExactSystemTextRow.holds Try.pinned (OpenSpec.ofChange fnExactSystemTextSpec)

/-- ITS FALSE NEIGHBOUR: 'it returns false'. Refute it at one input. -/
def fnExactSystemTextWrong : ChangeSpec := { name := "fnExactSystemText", fn := fun _ => fun
  | [d] => { results := [.lit (.bool false)], args := [d] }
  | _ => none }
def FnExactSystemTextWrongFalsely : Prop := fnExactSystemTextRow.holds Try.pinned (OpenSpec.ofChange fnExactSystemTextWrong)

/-- 'laws.FnExactParseSystem': WHATEVER THE INPUT: true; the input reads as it did. -/
def fnExactParseSystemSpec : ChangeSpec := { name := "fnExactParseSystem", fn := fun _ => fun
  | [d] => { results := [.lit (.bool true)], args := [d] }
  | _ => none }
def fnExactParseSystemRow : OpenClaim := { program := "ytibcdcfifebipaa", sum := "b93f2b01dee916b82652885d6bc401626bb8ee49108b365ab1953adde4f905f1", func := "loop.example/g01126/laws.FnExactParseSystem", spec := "fnExactParseSystem", apart := false }
def FnExactParseSystemSaid : Prop := fnExactParseSystemRow.holds Try.pinned (OpenSpec.ofChange fnExactParseSystemSpec)

/-- ITS FALSE NEIGHBOUR: 'it returns false'. Refute it at one input. -/
def fnExactParseSystemWrong : ChangeSpec := { name := "fnExactParseSystem", fn := fun _ => fun
  | [d] => { results := [.lit (.bool false)], args := [d] }
  | _ => none }
def FnExactParseSystemWrongFalsely : Prop := fnExactParseSystemRow.holds Try.pinned (OpenSpec.ofChange fnExactParseSystemWrong)

/-- 'laws.FnExactAllSystems': WHATEVER THE INPUT: true; the input reads as it did. -/
def fnExactAllSystemsSpec : ChangeSpec := { name := "fnExactAllSystems", fn := fun _ => fun
  | [d] => { results := [.lit (.bool true)], args := [d] }
  | _ => none }
def fnExactAllSystemsRow : OpenClaim := { program := "ytibcdcfifebipaa", sum := "b93f2b01dee916b82652885d6bc401626bb8ee49108b365ab1953adde4f905f1", func := "loop.example/g01126/laws.FnExactAllSystems", spec := "fnExactAllSystems", recurses := true, apart := false }
def FnExactAllSystemsSaid : Prop := fnExactAllSystemsRow.holds Try.pinned (OpenSpec.ofChange fnExactAllSystemsSpec)

/-- ITS FALSE NEIGHBOUR: 'it returns false'. Refute it at one input. -/
def fnExactAllSystemsWrong : ChangeSpec := { name := "fnExactAllSystems", fn := fun _ => fun
  | [d] => { results := [.lit (.bool false)], args := [d] }
  | _ => none }
def FnExactAllSystemsWrongFalsely : Prop := fnExactAllSystemsRow.holds Try.pinned (OpenSpec.ofChange fnExactAllSystemsWrong)

/-- 'laws.FnExactSystemWith': WHATEVER THE INPUT: true; the input reads as it did. -/
def fnExactSystemWithSpec : ChangeSpec := { name := "fnExactSystemWith", fn := fun _ => fun
  | [d1, d2] => { results := [.lit (.bool true)], args := [d1, d2] }
  | _ => none }
def fnExactSystemWithRow : OpenClaim := { program := "ytibcdcfifebipaa", sum := "b93f2b01dee916b82652885d6bc401626bb8ee49108b365ab1953adde4f905f1", func := "loop.example/g01126/laws.FnExactSystemWith", spec := "fnExactSystemWith", recurses := true, apart := false }
def FnExactSystemWithSaid : Prop := fnExactSystemWithRow.holds Try.pinned (OpenSpec.ofChange fnExactSystemWithSpec)

/-- ITS FALSE NEIGHBOUR: 'it returns false'. Refute it at one input. -/
def fnExactSystemWithWrong : ChangeSpec := { name := "fnExactSystemWith", fn := fun _ => fun
  | [d1, d2] => { results := [.lit (.bool false)], args := [d1, d2] }
  | _ => none }
def FnExactSystemWithWrongFalsely : Prop := fnExactSystemWithRow.holds Try.pinned (OpenSpec.ofChange fnExactSystemWithWrong)

/-- 'laws.FnExactRankSystem': WHATEVER THE INPUT: true; the input reads as it did. -/
def fnExactRankSystemSpec : ChangeSpec := { name := "fnExactRankSystem", fn := fun _ => fun
  | [d] => { results := [.lit (.bool true)], args := [d] }
  | _ => none }
def fnExactRankSystemRow : OpenClaim := { program := "ytibcdcfifebipaa", sum := "b93f2b01dee916b82652885d6bc401626bb8ee49108b365ab1953adde4f905f1", func := "loop.example/g01126/laws.FnExactRankSystem", spec := "fnExactRankSystem", recurses := true, apart := false }
def FnExactRankSystemSaid : Prop := fnExactRankSystemRow.holds Try.pinned (OpenSpec.ofChange fnExactRankSystemSpec)

/-- ITS FALSE NEIGHBOUR: 'it returns false'. Refute it at one input. -/
def fnExactRankSystemWrong : ChangeSpec := { name := "fnExactRankSystem", fn := fun _ => fun
  | [d] => { results := [.lit (.bool false)], args := [d] }
  | _ => none }
def FnExactRankSystemWrongFalsely : Prop := fnExactRankSystemRow.holds Try.pinned (OpenSpec.ofChange fnExactRankSystemWrong)

/-- 'laws.FnExactNextSystem': WHATEVER THE INPUT: true; the input reads as it did. -/
def fnExactNextSystemSpec : ChangeSpec := { name := "fnExactNextSystem", fn := fun _ => fun
  | [d] => { results := [.lit (.bool true)], args := [d] }
  | _ => none }
def fnExactNextSystemRow : OpenClaim := { program := "ytibcdcfifebipaa", sum := "b93f2b01dee916b82652885d6bc401626bb8ee49108b365ab1953adde4f905f1", func := "loop.example/g01126/laws.FnExactNextSystem", spec := "fnExactNextSystem", recurses := true, apart := false }
def FnExactNextSystemSaid : Prop := fnExactNextSystemRow.holds Try.pinned (OpenSpec.ofChange fnExactNextSystemSpec)

/-- ITS FALSE NEIGHBOUR: 'it returns false'. Refute it at one input. -/
def fnExactNextSystemWrong : ChangeSpec := { name := "fnExactNextSystem", fn := fun _ => fun
  | [d] => { results := [.lit (.bool false)], args := [d] }
  | _ => none }
def FnExactNextSystemWrongFalsely : Prop := fnExactNextSystemRow.holds Try.pinned (OpenSpec.ofChange fnExactNextSystemWrong)

/- THE SECOND FORM. 'bulk': how many values and letters a reading holds, each counted each time it is reached (what is shared counts as often as it is met; a slice's spare places count too). A statement '..UptoSaid' is the law's where the arguments, and the package variables that the reading takes, are together of bulk at most 1048576: NARROWER than '..Said'. Prove '..Said' where nothing that the law and all that it calls make is longer than what came in: it says more and counts as full. Else prove '..UptoSaid'. A law counts once. -/
mutual
def uptoBulk {H : Type} : DataW H → Nat
  | .lit (.string bytes) => bytes.length + 1
  | .lit _ => 1
  | .nil => 1
  | .ptr d => uptoBulk d + 1
  | .slice elems spare => uptoBulkAll elems + uptoBulkAll spare + 1
  | .agg parts => uptoBulkAll parts + 1
  | .iface _ d => uptoBulk d + 1
  | .map entries => uptoBulkEntries entries + 1
  | .held _ => 1
def uptoBulkAll {H : Type} : List (DataW H) → Nat
  | [] => 0
  | d :: r => uptoBulk d + uptoBulkAll r
def uptoBulkEntries {H : Type} : List (Lit × DataW H) → Nat
  | [] => 0
  | x :: r => uptoBulkEntry x + uptoBulkEntries r
def uptoBulkEntry {H : Type} : Lit × DataW H → Nat
  | (.string bytes, d) => bytes.length + uptoBulk d + 1
  | (_, d) => uptoBulk d + 1
 end
def uptoSmall : (H : Type) → List (DataW H) → Bool := fun _ ds => decide (uptoBulkAll ds ≤ 1048576)
def OpenSpec.upto (s : _root_.Go.ChangeSpec) : _root_.Go.OpenSpec := { _root_.Go.OpenSpec.ofChange s with cond := some uptoSmall }

/-- 'laws.FnExactDropArch', WHERE WHAT IT READS IS OF BULK AT MOST 1048576: true; the input reads as it did. -/
def fnExactDropArchUptoRow : OpenClaim := { program := "ytibcdcfifebipaa", sum := "b93f2b01dee916b82652885d6bc401626bb8ee49108b365ab1953adde4f905f1", func := "loop.example/g01126/laws.FnExactDropArch", spec := "fnExactDropArch", apart := false, narrowed := true }
def FnExactDropArchUptoSaid : Prop := fnExactDropArchUptoRow.holds Try.pinned (OpenSpec.upto fnExactDropArchSpec)

/-- 'laws.FnExactPutArch', WHERE WHAT IT READS IS OF BULK AT MOST 1048576: true; the input reads as it did. -/
def fnExactPutArchUptoRow : OpenClaim := { program := "ytibcdcfifebipaa", sum := "b93f2b01dee916b82652885d6bc401626bb8ee49108b365ab1953adde4f905f1", func := "loop.example/g01126/laws.FnExactPutArch", spec := "fnExactPutArch", unfollowed := true, recurses := true, apart := false, narrowed := true }
def FnExactPutArchUptoSaid : Prop := fnExactPutArchUptoRow.holds Try.pinned (OpenSpec.upto fnExactPutArchSpec)

/-- 'laws.FnExactSystemText', WHERE WHAT IT READS IS OF BULK AT MOST 1048576: true; the input reads as it did. -/
def fnExactSystemTextUptoRow : OpenClaim := { program := "ytibcdcfifebipaa", sum := "b93f2b01dee916b82652885d6bc401626bb8ee49108b365ab1953adde4f905f1", func := "loop.example/g01126/laws.FnExactSystemText", spec := "fnExactSystemText", apart := false, narrowed := true }
def FnExactSystemTextUptoSaid : Prop := fnExactSystemTextUptoRow.holds Try.pinned (OpenSpec.upto fnExactSystemTextSpec)

/-- 'laws.FnExactParseSystem', WHERE WHAT IT READS IS OF BULK AT MOST 1048576: true; the input reads as it did. -/
def fnExactParseSystemUptoRow : OpenClaim := { program := "ytibcdcfifebipaa", sum := "b93f2b01dee916b82652885d6bc401626bb8ee49108b365ab1953adde4f905f1", func := "loop.example/g01126/laws.FnExactParseSystem", spec := "fnExactParseSystem", apart := false, narrowed := true }
def FnExactParseSystemUptoSaid : Prop := fnExactParseSystemUptoRow.holds Try.pinned (OpenSpec.upto fnExactParseSystemSpec)

/-- 'laws.FnExactAllSystems', WHERE WHAT IT READS IS OF BULK AT MOST 1048576: true; the input reads as it did. -/
def fnExactAllSystemsUptoRow : OpenClaim := { program := "ytibcdcfifebipaa", sum := "b93f2b01dee916b82652885d6bc401626bb8ee49108b365ab1953adde4f905f1", func := "loop.example/g01126/laws.FnExactAllSystems", spec := "fnExactAllSystems", recurses := true, apart := false, narrowed := true }
def FnExactAllSystemsUptoSaid : Prop := fnExactAllSystemsUptoRow.holds Try.pinned (OpenSpec.upto fnExactAllSystemsSpec)

/-- 'laws.FnExactSystemWith', WHERE WHAT IT READS IS OF BULK AT MOST 1048576: true; the input reads as it did. -/
def fnExactSystemWithUptoRow : OpenClaim := { program := "ytibcdcfifebipaa", sum := "b93f2b01dee916b82652885d6bc401626bb8ee49108b365ab1953adde4f905f1", func := "loop.example/g01126/laws.FnExactSystemWith", spec := "fnExactSystemWith", recurses := true, apart := false, narrowed := true }
def FnExactSystemWithUptoSaid : Prop := fnExactSystemWithUptoRow.holds Try.pinned (OpenSpec.upto fnExactSystemWithSpec)

/-- 'laws.FnExactRankSystem', WHERE WHAT IT READS IS OF BULK AT MOST 1048576: true; the input reads as it did. -/
def fnExactRankSystemUptoRow : OpenClaim := { program := "ytibcdcfifebipaa", sum := "b93f2b01dee916b82652885d6bc401626bb8ee49108b365ab1953adde4f905f1", func := "loop.example/g01126/laws.FnExactRankSystem", spec := "fnExactRankSystem", recurses := true, apart := false, narrowed := true }
def FnExactRankSystemUptoSaid : Prop := fnExactRankSystemUptoRow.holds Try.pinned (OpenSpec.upto fnExactRankSystemSpec)

/-- 'laws.FnExactNextSystem', WHERE WHAT IT READS IS OF BULK AT MOST 1048576: true; the input reads as it did. -/
def fnExactNextSystemUptoRow : OpenClaim := { program := "ytibcdcfifebipaa", sum := "b93f2b01dee916b82652885d6bc401626bb8ee49108b365ab1953adde4f905f1", func := "loop.example/g01126/laws.FnExactNextSystem", spec := "fnExactNextSystem", recurses := true, apart := false, narrowed := true }
def FnExactNextSystemUptoSaid : Prop := fnExactNextSystemUptoRow.holds Try.pinned (OpenSpec.upto fnExactNextSystemSpec)

end Rows
end Go.Proofs.Ytibcdcfifebipaa
