/-
  No cell of these rows narrows 'for every input' (looked for: loops, veiled, ifaces, maps, wideKeys, modest, calm, conditions, laid).
  DERIVED. THE GIVEN ROWS OF THIS SEAT. 8 by the template 'for every input the law returns true; each argument reads behind the call as it read before'; 0 by the template 'total and deterministic' (their statements: YtibcdcfifebipabTotals.lean).
  GIVEN WITH THE SEED: the statements are not yours to turn. If you find one false, say at which input.
  Laid BY PROGRAM, IN A SANDBOX (cutbox-rows.mjs): the forced cells as the released guide's own fill.sh prints them over the translation f8f79ce7acb9ebdf… (all of the seat's roots in one cut). By AI agents, Wed Nov 11 2026. No macro, syntax, notation, axiom, sorry.
-/
import Derived.Test.YtibcdcfifebipabChecked
import GoSem.Claim
import GoSem.ClaimJoined
import GoSem.ClaimMapViews
import Derived.JoinedTies
import Derived.KernelRfl
namespace Go.Proofs.Ytibcdcfifebipab
/- THE CELL 'sum', in the pinned program and in every row, IS THE sha256 OF THE DUMP (.gsa) THAT YtibcdcfifebipabProg.lean LOADS. Nothing in Lean hashes anything: it is a label: what it is worth is what the hold of that sum in a sandbox is worth. -/
noncomputable def Try.pinned : Pinned := { name := "ytibcdcfifebipab", sum := "f8f79ce7acb9ebdf43b2ed418ba31841a406c3842a616c1e8aa290452e008dab", checked := Try.checked }
namespace Rows
def none {H : Type} : Left H := { results := [], args := [] }

/-- 'laws.FnExactIsPair': WHATEVER THE INPUT: true; the input reads as it did. -/
def fnExactIsPairSpec : ChangeSpec := { name := "fnExactIsPair", fn := fun _ => fun
  | [d] => { results := [.lit (.bool true)], args := [d] }
  | _ => none }
def fnExactIsPairRow : OpenClaim := { program := "ytibcdcfifebipab", sum := "f8f79ce7acb9ebdf43b2ed418ba31841a406c3842a616c1e8aa290452e008dab", func := "loop.example/g01126/laws.FnExactIsPair", spec := "fnExactIsPair", apart := false }
def FnExactIsPairSaid : Prop := fnExactIsPairRow.holds Try.pinned (OpenSpec.ofChange fnExactIsPairSpec)

/-- ITS FALSE NEIGHBOUR: 'it returns false'. Refute it at one input. -/
def fnExactIsPairWrong : ChangeSpec := { name := "fnExactIsPair", fn := fun _ => fun
  | [d] => { results := [.lit (.bool false)], args := [d] }
  | _ => none }
def FnExactIsPairWrongFalsely : Prop := fnExactIsPairRow.holds Try.pinned (OpenSpec.ofChange fnExactIsPairWrong)

/-- 'laws.FnExactSignOf': WHATEVER THE INPUT: true; the input reads as it did. -/
def fnExactSignOfSpec : ChangeSpec := { name := "fnExactSignOf", fn := fun _ => fun
  | [d] => { results := [.lit (.bool true)], args := [d] }
  | _ => none }
def fnExactSignOfRow : OpenClaim := { program := "ytibcdcfifebipab", sum := "f8f79ce7acb9ebdf43b2ed418ba31841a406c3842a616c1e8aa290452e008dab", func := "loop.example/g01126/laws.FnExactSignOf", spec := "fnExactSignOf", apart := false }
def FnExactSignOfSaid : Prop := fnExactSignOfRow.holds Try.pinned (OpenSpec.ofChange fnExactSignOfSpec)

/-- ITS FALSE NEIGHBOUR: 'it returns false'. Refute it at one input. -/
def fnExactSignOfWrong : ChangeSpec := { name := "fnExactSignOf", fn := fun _ => fun
  | [d] => { results := [.lit (.bool false)], args := [d] }
  | _ => none }
def FnExactSignOfWrongFalsely : Prop := fnExactSignOfRow.holds Try.pinned (OpenSpec.ofChange fnExactSignOfWrong)

/-- 'laws.FnExactFlipMeander': WHATEVER THE INPUT: true; the input reads as it did. -/
def fnExactFlipMeanderSpec : ChangeSpec := { name := "fnExactFlipMeander", fn := fun _ => fun
  | [d] => { results := [.lit (.bool true)], args := [d] }
  | _ => none }
def fnExactFlipMeanderRow : OpenClaim := { program := "ytibcdcfifebipab", sum := "f8f79ce7acb9ebdf43b2ed418ba31841a406c3842a616c1e8aa290452e008dab", func := "loop.example/g01126/laws.FnExactFlipMeander", spec := "fnExactFlipMeander", apart := false }
def FnExactFlipMeanderSaid : Prop := fnExactFlipMeanderRow.holds Try.pinned (OpenSpec.ofChange fnExactFlipMeanderSpec)

/-- ITS FALSE NEIGHBOUR: 'it returns false'. Refute it at one input. -/
def fnExactFlipMeanderWrong : ChangeSpec := { name := "fnExactFlipMeander", fn := fun _ => fun
  | [d] => { results := [.lit (.bool false)], args := [d] }
  | _ => none }
def FnExactFlipMeanderWrongFalsely : Prop := fnExactFlipMeanderRow.holds Try.pinned (OpenSpec.ofChange fnExactFlipMeanderWrong)

/-- 'laws.FnExactTurnMeander': WHATEVER THE INPUT: true; the input reads as it did. -/
def fnExactTurnMeanderSpec : ChangeSpec := { name := "fnExactTurnMeander", fn := fun _ => fun
  | [d1, d2] => { results := [.lit (.bool true)], args := [d1, d2] }
  | _ => none }
def fnExactTurnMeanderRow : OpenClaim := { program := "ytibcdcfifebipab", sum := "f8f79ce7acb9ebdf43b2ed418ba31841a406c3842a616c1e8aa290452e008dab", func := "loop.example/g01126/laws.FnExactTurnMeander", spec := "fnExactTurnMeander", unfollowed := true, recurses := true, apart := false }
def FnExactTurnMeanderSaid : Prop := fnExactTurnMeanderRow.holds Try.pinned (OpenSpec.ofChange fnExactTurnMeanderSpec)

/-- ITS FALSE NEIGHBOUR: 'it returns false'. Refute it at one input. -/
def fnExactTurnMeanderWrong : ChangeSpec := { name := "fnExactTurnMeander", fn := fun _ => fun
  | [d1, d2] => { results := [.lit (.bool false)], args := [d1, d2] }
  | _ => none }
def FnExactTurnMeanderWrongFalsely : Prop := fnExactTurnMeanderRow.holds Try.pinned (OpenSpec.ofChange fnExactTurnMeanderWrong)

/-- 'laws.FnExactMirrorMeander': WHATEVER THE INPUT: true; the input reads as it did. -/
def fnExactMirrorMeanderSpec : ChangeSpec := { name := "fnExactMirrorMeander", fn := fun _ => fun
  | [d] => { results := [.lit (.bool true)], args := [d] }
  | _ => none }
def fnExactMirrorMeanderRow : OpenClaim := { program := "ytibcdcfifebipab", sum := "f8f79ce7acb9ebdf43b2ed418ba31841a406c3842a616c1e8aa290452e008dab", func := "loop.example/g01126/laws.FnExactMirrorMeander", spec := "fnExactMirrorMeander", unfollowed := true, recurses := true, apart := false }
def FnExactMirrorMeanderSaid : Prop := fnExactMirrorMeanderRow.holds Try.pinned (OpenSpec.ofChange fnExactMirrorMeanderSpec)

/-- ITS FALSE NEIGHBOUR: 'it returns false'. Refute it at one input. -/
def fnExactMirrorMeanderWrong : ChangeSpec := { name := "fnExactMirrorMeander", fn := fun _ => fun
  | [d] => { results := [.lit (.bool false)], args := [d] }
  | _ => none }
def FnExactMirrorMeanderWrongFalsely : Prop := fnExactMirrorMeanderRow.holds Try.pinned (OpenSpec.ofChange fnExactMirrorMeanderWrong)

/-- 'laws.FnExactJoinMeanders': WHATEVER THE INPUT: true; the input reads as it did. -/
def fnExactJoinMeandersSpec : ChangeSpec := { name := "fnExactJoinMeanders", fn := fun _ => fun
  | [d1, d2] => { results := [.lit (.bool true)], args := [d1, d2] }
  | _ => none }
def fnExactJoinMeandersRow : OpenClaim := { program := "ytibcdcfifebipab", sum := "f8f79ce7acb9ebdf43b2ed418ba31841a406c3842a616c1e8aa290452e008dab", func := "loop.example/g01126/laws.FnExactJoinMeanders", spec := "fnExactJoinMeanders", unfollowed := true, recurses := true, apart := false }
def FnExactJoinMeandersSaid : Prop := fnExactJoinMeandersRow.holds Try.pinned (OpenSpec.ofChange fnExactJoinMeandersSpec)

/-- ITS FALSE NEIGHBOUR: 'it returns false'. Refute it at one input. -/
def fnExactJoinMeandersWrong : ChangeSpec := { name := "fnExactJoinMeanders", fn := fun _ => fun
  | [d1, d2] => { results := [.lit (.bool false)], args := [d1, d2] }
  | _ => none }
def FnExactJoinMeandersWrongFalsely : Prop := fnExactJoinMeandersRow.holds Try.pinned (OpenSpec.ofChange fnExactJoinMeandersWrong)

/-- 'laws.FnExactMeanderText': WHATEVER THE INPUT: true; the input reads as it did. -/
def fnExactMeanderTextSpec : ChangeSpec := { name := "fnExactMeanderText", fn := fun _ => fun
  | [d] => { results := [.lit (.bool true)], args := [d] }
  | _ => none }
def fnExactMeanderTextRow : OpenClaim := { program := "ytibcdcfifebipab", sum := "f8f79ce7acb9ebdf43b2ed418ba31841a406c3842a616c1e8aa290452e008dab", func := "loop.example/g01126/laws.FnExactMeanderText", spec := "fnExactMeanderText", apart := false }
def FnExactMeanderTextSaid : Prop := fnExactMeanderTextRow.holds Try.pinned (OpenSpec.ofChange fnExactMeanderTextSpec)

/-- ITS FALSE NEIGHBOUR: 'it returns false'. Refute it at one input. -/
def fnExactMeanderTextWrong : ChangeSpec := { name := "fnExactMeanderText", fn := fun _ => fun
  | [d] => { results := [.lit (.bool false)], args := [d] }
  | _ => none }
def FnExactMeanderTextWrongFalsely : Prop := fnExactMeanderTextRow.holds Try.pinned (OpenSpec.ofChange fnExactMeanderTextWrong)

/-- 'laws.FnExactParseMeander': WHATEVER THE INPUT: true; the input reads as it did. -/
def fnExactParseMeanderSpec : ChangeSpec := { name := "fnExactParseMeander", fn := fun _ => fun
  | [d] => { results := [.lit (.bool true)], args := [d] }
  | _ => none }
def fnExactParseMeanderRow : OpenClaim := { program := "ytibcdcfifebipab", sum := "f8f79ce7acb9ebdf43b2ed418ba31841a406c3842a616c1e8aa290452e008dab", func := "loop.example/g01126/laws.FnExactParseMeander", spec := "fnExactParseMeander", inPlace := ["internal/bytealg.IndexByteString", "internal/bytealg.IndexString"], named := ["internal/bytealg.MaxLen"], apart := false }
def FnExactParseMeanderSaid : Prop := fnExactParseMeanderRow.holds Try.pinned (OpenSpec.ofChange fnExactParseMeanderSpec)

/-- ITS FALSE NEIGHBOUR: 'it returns false'. Refute it at one input. -/
def fnExactParseMeanderWrong : ChangeSpec := { name := "fnExactParseMeander", fn := fun _ => fun
  | [d] => { results := [.lit (.bool false)], args := [d] }
  | _ => none }
def FnExactParseMeanderWrongFalsely : Prop := fnExactParseMeanderRow.holds Try.pinned (OpenSpec.ofChange fnExactParseMeanderWrong)

/- THE SECOND FORM. 'bulk': how many values and letters a reading holds, each counted each time it is reached (what is shared counts as often as it is met; a slice's spare places count too). A statement '..UptoSaid' is the law's where the arguments, and the package variables that the reading takes, are together of bulk at most 1048576: NARROWER than '..Said'. Prove '..Said' where nothing that the law and all that it calls make is longer than what came in: it says more and counts as full. Else prove '..UptoSaid'. A law counts once. -/
mutual
def uptoBulk {H : Type} : DataW H → Nat
  | .lit (.string bytes) => bytes.length + 1
  | .lit _ => 1
  | .nil => 1
  | .ptr d => uptoBulk d + 1
  | .slice elems spare => uptoBulkAll elems + uptoBulkAll spare + 1
  | .agg parts => uptoBulkAll parts + 1
  | .iface _ d => uptoBulk d + 1
  | .map entries => uptoBulkEntries entries + 1
  | .held _ => 1
def uptoBulkAll {H : Type} : List (DataW H) → Nat
  | [] => 0
  | d :: r => uptoBulk d + uptoBulkAll r
def uptoBulkEntries {H : Type} : List (Lit × DataW H) → Nat
  | [] => 0
  | x :: r => uptoBulkEntry x + uptoBulkEntries r
def uptoBulkEntry {H : Type} : Lit × DataW H → Nat
  | (.string bytes, d) => bytes.length + uptoBulk d + 1
  | (_, d) => uptoBulk d + 1
 end
def uptoSmall : (H : Type) → List (DataW H) → Bool := fun _ ds => decide (uptoBulkAll ds ≤ 1048576)
def OpenSpec.upto (s : _root_.Go.ChangeSpec) : _root_.Go.OpenSpec := { _root_.Go.OpenSpec.ofChange s with cond := some uptoSmall }

/-- 'laws.FnExactIsPair', WHERE WHAT IT READS IS OF BULK AT MOST 1048576: true; the input reads as it did. -/
def fnExactIsPairUptoRow : OpenClaim := { program := "ytibcdcfifebipab", sum := "f8f79ce7acb9ebdf43b2ed418ba31841a406c3842a616c1e8aa290452e008dab", func := "loop.example/g01126/laws.FnExactIsPair", spec := "fnExactIsPair", apart := false, narrowed := true }
def FnExactIsPairUptoSaid : Prop := fnExactIsPairUptoRow.holds Try.pinned (OpenSpec.upto fnExactIsPairSpec)

/-- 'laws.FnExactSignOf', WHERE WHAT IT READS IS OF BULK AT MOST 1048576: true; the input reads as it did. -/
def fnExactSignOfUptoRow : OpenClaim := { program := "ytibcdcfifebipab", sum := "f8f79ce7acb9ebdf43b2ed418ba31841a406c3842a616c1e8aa290452e008dab", func := "loop.example/g01126/laws.FnExactSignOf", spec := "fnExactSignOf", apart := false, narrowed := true }
def FnExactSignOfUptoSaid : Prop := fnExactSignOfUptoRow.holds Try.pinned (OpenSpec.upto fnExactSignOfSpec)

/-- 'laws.FnExactFlipMeander', WHERE WHAT IT READS IS OF BULK AT MOST 1048576: true; the input reads as it did. -/
def fnExactFlipMeanderUptoRow : OpenClaim := { program := "ytibcdcfifebipab", sum := "f8f79ce7acb9ebdf43b2ed418ba31841a406c3842a616c1e8aa290452e008dab", func := "loop.example/g01126/laws.FnExactFlipMeander", spec := "fnExactFlipMeander", apart := false, narrowed := true }
def FnExactFlipMeanderUptoSaid : Prop := fnExactFlipMeanderUptoRow.holds Try.pinned (OpenSpec.upto fnExactFlipMeanderSpec)

/-- 'laws.FnExactTurnMeander', WHERE WHAT IT READS IS OF BULK AT MOST 1048576: true; the input reads as it did. -/
def fnExactTurnMeanderUptoRow : OpenClaim := { program := "ytibcdcfifebipab", sum := "f8f79ce7acb9ebdf43b2ed418ba31841a406c3842a616c1e8aa290452e008dab", func := "loop.example/g01126/laws.FnExactTurnMeander", spec := "fnExactTurnMeander", unfollowed := true, recurses := true, apart := false, narrowed := true }
def FnExactTurnMeanderUptoSaid : Prop := fnExactTurnMeanderUptoRow.holds Try.pinned (OpenSpec.upto fnExactTurnMeanderSpec)

/-- 'laws.FnExactMirrorMeander', WHERE WHAT IT READS IS OF BULK AT MOST 1048576: true; the input reads as it did. -/
def fnExactMirrorMeanderUptoRow : OpenClaim := { program := "ytibcdcfifebipab", sum := "f8f79ce7acb9ebdf43b2ed418ba31841a406c3842a616c1e8aa290452e008dab", func := "loop.example/g01126/laws.FnExactMirrorMeander", spec := "fnExactMirrorMeander", unfollowed := true, recurses := true, apart := false, narrowed := true }
def FnExactMirrorMeanderUptoSaid : Prop := fnExactMirrorMeanderUptoRow.holds Try.pinned (OpenSpec.upto fnExactMirrorMeanderSpec)

/-- 'laws.FnExactJoinMeanders', WHERE WHAT IT READS IS OF BULK AT MOST 1048576: true; the input reads as it did. -/
def fnExactJoinMeandersUptoRow : OpenClaim := { program := "ytibcdcfifebipab", sum := "f8f79ce7acb9ebdf43b2ed418ba31841a406c3842a616c1e8aa290452e008dab", func := "loop.example/g01126/laws.FnExactJoinMeanders", spec := "fnExactJoinMeanders", unfollowed := true, recurses := true, apart := false, narrowed := true }
def FnExactJoinMeandersUptoSaid : Prop := fnExactJoinMeandersUptoRow.holds Try.pinned (OpenSpec.upto fnExactJoinMeandersSpec)

/-- 'laws.FnExactMeanderText', WHERE WHAT IT READS IS OF BULK AT MOST 1048576: true; the input reads as it did. -/
def fnExactMeanderTextUptoRow : OpenClaim := { program := "ytibcdcfifebipab", sum := "f8f79ce7acb9ebdf43b2ed418ba31841a406c3842a616c1e8aa290452e008dab", func := "loop.example/g01126/laws.FnExactMeanderText", spec := "fnExactMeanderText", apart := false, narrowed := true }
def FnExactMeanderTextUptoSaid : Prop := fnExactMeanderTextUptoRow.holds Try.pinned (OpenSpec.upto fnExactMeanderTextSpec)

/-- 'laws.FnExactParseMeander', WHERE WHAT IT READS IS OF BULK AT MOST 1048576: true; the input reads as it did. -/
def fnExactParseMeanderUptoRow : OpenClaim := { program := "ytibcdcfifebipab", sum := "f8f79ce7acb9ebdf43b2ed418ba31841a406c3842a616c1e8aa290452e008dab", func := "loop.example/g01126/laws.FnExactParseMeander", spec := "fnExactParseMeander", inPlace := ["internal/bytealg.IndexByteString", "internal/bytealg.IndexString"], named := ["internal/bytealg.MaxLen"], apart := false, narrowed := true }
def FnExactParseMeanderUptoSaid : Prop := fnExactParseMeanderUptoRow.holds Try.pinned (OpenSpec.upto fnExactParseMeanderSpec)

end Rows
end Go.Proofs.Ytibcdcfifebipab
