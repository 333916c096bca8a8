/-
  No cell of these rows narrows 'for every input' (looked for: loops, veiled, ifaces, maps, wideKeys, modest, calm, conditions, laid).
  DERIVED. THE GIVEN ROWS OF THIS SEAT. 9 by the template 'for every input the law returns true; each argument reads behind the call as it read before'; 0 by the template 'total and deterministic' (their statements: YtgaaddfipkdlaabTotals.lean).
  GIVEN WITH THE SEED: the statements are not yours to turn. If you find one false, say at which input.
  Laid BY PROGRAM, IN A SANDBOX (cutbox-rows.mjs): the forced cells as the released guide's own fill.sh prints them over the translation 0bbce0c269db5135… (all of the seat's roots in one cut). By AI agents, Wed Nov 11 2026. No macro, syntax, notation, axiom, sorry.
-/
import Derived.Test.YtgaaddfipkdlaabChecked
import GoSem.Claim
import GoSem.ClaimJoined
import GoSem.ClaimMapViews
import Derived.JoinedTies
import Derived.KernelRfl
namespace Go.Proofs.Ytgaaddfipkdlaab
/- THE CELL 'sum', in the pinned program and in every row, IS THE sha256 OF THE DUMP (.gsa) THAT YtgaaddfipkdlaabProg.lean LOADS. Nothing in Lean hashes anything: it is a label: what it is worth is what the hold of that sum in a sandbox is worth. -/
noncomputable def Try.pinned : Pinned := { name := "ytgaaddfipkdlaab", sum := "0bbce0c269db513545c7f6b049d7b7055a0b8fa01b354e076663c87991750378", checked := Try.checked }
namespace Rows
def none {H : Type} : Left H := { results := [], args := [] }

/-- 'laws.FnExactTableAt': WHATEVER THE INPUT: true; the input reads as it did. -/
def fnExactTableAtSpec : ChangeSpec := { name := "fnExactTableAt", fn := fun _ => fun
  | [d1, d2] => { results := [.lit (.bool true)], args := [d1, d2] }
  | _ => none }
def fnExactTableAtRow : OpenClaim := { program := "ytgaaddfipkdlaab", sum := "0bbce0c269db513545c7f6b049d7b7055a0b8fa01b354e076663c87991750378", func := "loop.example/g01126/laws.FnExactTableAt", spec := "fnExactTableAt", unfollowed := true, recurses := true, apart := false }
def FnExactTableAtSaid : Prop := fnExactTableAtRow.holds Try.pinned (OpenSpec.ofChange fnExactTableAtSpec)

/-- ITS FALSE NEIGHBOUR: 'it returns false'. Refute it at one input. -/
def fnExactTableAtWrong : ChangeSpec := { name := "fnExactTableAt", fn := fun _ => fun
  | [d1, d2] => { results := [.lit (.bool false)], args := [d1, d2] }
  | _ => none }
def FnExactTableAtWrongFalsely : Prop := fnExactTableAtRow.holds Try.pinned (OpenSpec.ofChange fnExactTableAtWrong)

/-- 'laws.FnExactExponentTable': WHATEVER THE INPUT: true; the input reads as it did. -/
def fnExactExponentTableSpec : ChangeSpec := { name := "fnExactExponentTable", fn := fun _ => fun
  | [d] => { results := [.lit (.bool true)], args := [d] }
  | _ => none }
def fnExactExponentTableRow : OpenClaim := { program := "ytgaaddfipkdlaab", sum := "0bbce0c269db513545c7f6b049d7b7055a0b8fa01b354e076663c87991750378", func := "loop.example/g01126/laws.FnExactExponentTable", spec := "fnExactExponentTable", unfollowed := true, recurses := true, apart := false }
def FnExactExponentTableSaid : Prop := fnExactExponentTableRow.holds Try.pinned (OpenSpec.ofChange fnExactExponentTableSpec)

/-- ITS FALSE NEIGHBOUR: 'it returns false'. Refute it at one input. -/
def fnExactExponentTableWrong : ChangeSpec := { name := "fnExactExponentTable", fn := fun _ => fun
  | [d] => { results := [.lit (.bool false)], args := [d] }
  | _ => none }
def FnExactExponentTableWrongFalsely : Prop := fnExactExponentTableRow.holds Try.pinned (OpenSpec.ofChange fnExactExponentTableWrong)

/-- 'laws.FnExactSumOfTable': WHATEVER THE INPUT: true; the input reads as it did. -/
def fnExactSumOfTableSpec : ChangeSpec := { name := "fnExactSumOfTable", fn := fun _ => fun
  | [d1, d2] => { results := [.lit (.bool true)], args := [d1, d2] }
  | _ => none }
def fnExactSumOfTableRow : OpenClaim := { program := "ytgaaddfipkdlaab", sum := "0bbce0c269db513545c7f6b049d7b7055a0b8fa01b354e076663c87991750378", func := "loop.example/g01126/laws.FnExactSumOfTable", spec := "fnExactSumOfTable", unfollowed := true, recurses := true, apart := false }
def FnExactSumOfTableSaid : Prop := fnExactSumOfTableRow.holds Try.pinned (OpenSpec.ofChange fnExactSumOfTableSpec)

/-- ITS FALSE NEIGHBOUR: 'it returns false'. Refute it at one input. -/
def fnExactSumOfTableWrong : ChangeSpec := { name := "fnExactSumOfTable", fn := fun _ => fun
  | [d1, d2] => { results := [.lit (.bool false)], args := [d1, d2] }
  | _ => none }
def FnExactSumOfTableWrongFalsely : Prop := fnExactSumOfTableRow.holds Try.pinned (OpenSpec.ofChange fnExactSumOfTableWrong)

/-- 'laws.FnExactApplyTable': WHATEVER THE INPUT: true; the input reads as it did. -/
def fnExactApplyTableSpec : ChangeSpec := { name := "fnExactApplyTable", fn := fun _ => fun
  | [d1, d2] => { results := [.lit (.bool true)], args := [d1, d2] }
  | _ => none }
def fnExactApplyTableRow : OpenClaim := { program := "ytgaaddfipkdlaab", sum := "0bbce0c269db513545c7f6b049d7b7055a0b8fa01b354e076663c87991750378", func := "loop.example/g01126/laws.FnExactApplyTable", spec := "fnExactApplyTable", unfollowed := true, recurses := true, apart := false }
def FnExactApplyTableSaid : Prop := fnExactApplyTableRow.holds Try.pinned (OpenSpec.ofChange fnExactApplyTableSpec)

/-- ITS FALSE NEIGHBOUR: 'it returns false'. Refute it at one input. -/
def fnExactApplyTableWrong : ChangeSpec := { name := "fnExactApplyTable", fn := fun _ => fun
  | [d1, d2] => { results := [.lit (.bool false)], args := [d1, d2] }
  | _ => none }
def FnExactApplyTableWrongFalsely : Prop := fnExactApplyTableRow.holds Try.pinned (OpenSpec.ofChange fnExactApplyTableWrong)

/-- 'laws.FnExactDeterminantOf': WHATEVER THE INPUT: true; the input reads as it did. -/
def fnExactDeterminantOfSpec : ChangeSpec := { name := "fnExactDeterminantOf", fn := fun _ => fun
  | [d] => { results := [.lit (.bool true)], args := [d] }
  | _ => none }
def fnExactDeterminantOfRow : OpenClaim := { program := "ytgaaddfipkdlaab", sum := "0bbce0c269db513545c7f6b049d7b7055a0b8fa01b354e076663c87991750378", func := "loop.example/g01126/laws.FnExactDeterminantOf", spec := "fnExactDeterminantOf", unfollowed := true, recurses := true, apart := false }
def FnExactDeterminantOfSaid : Prop := fnExactDeterminantOfRow.holds Try.pinned (OpenSpec.ofChange fnExactDeterminantOfSpec)

/-- ITS FALSE NEIGHBOUR: 'it returns false'. Refute it at one input. -/
def fnExactDeterminantOfWrong : ChangeSpec := { name := "fnExactDeterminantOf", fn := fun _ => fun
  | [d] => { results := [.lit (.bool false)], args := [d] }
  | _ => none }
def FnExactDeterminantOfWrongFalsely : Prop := fnExactDeterminantOfRow.holds Try.pinned (OpenSpec.ofChange fnExactDeterminantOfWrong)

/-- 'laws.FnExactRankOf': WHATEVER THE INPUT: true; the input reads as it did. -/
def fnExactRankOfSpec : ChangeSpec := { name := "fnExactRankOf", fn := fun _ => fun
  | [d] => { results := [.lit (.bool true)], args := [d] }
  | _ => none }
def fnExactRankOfRow : OpenClaim := { program := "ytgaaddfipkdlaab", sum := "0bbce0c269db513545c7f6b049d7b7055a0b8fa01b354e076663c87991750378", func := "loop.example/g01126/laws.FnExactRankOf", spec := "fnExactRankOf", unfollowed := true, recurses := true, apart := false }
def FnExactRankOfSaid : Prop := fnExactRankOfRow.holds Try.pinned (OpenSpec.ofChange fnExactRankOfSpec)

/-- ITS FALSE NEIGHBOUR: 'it returns false'. Refute it at one input. -/
def fnExactRankOfWrong : ChangeSpec := { name := "fnExactRankOf", fn := fun _ => fun
  | [d] => { results := [.lit (.bool false)], args := [d] }
  | _ => none }
def FnExactRankOfWrongFalsely : Prop := fnExactRankOfRow.holds Try.pinned (OpenSpec.ofChange fnExactRankOfWrong)

/-- 'laws.FnExactDependentRow': WHATEVER THE INPUT: true; the input reads as it did. -/
def fnExactDependentRowSpec : ChangeSpec := { name := "fnExactDependentRow", fn := fun _ => fun
  | [d] => { results := [.lit (.bool true)], args := [d] }
  | _ => none }
def fnExactDependentRowRow : OpenClaim := { program := "ytgaaddfipkdlaab", sum := "0bbce0c269db513545c7f6b049d7b7055a0b8fa01b354e076663c87991750378", func := "loop.example/g01126/laws.FnExactDependentRow", spec := "fnExactDependentRow", unfollowed := true, recurses := true, apart := false }
def FnExactDependentRowSaid : Prop := fnExactDependentRowRow.holds Try.pinned (OpenSpec.ofChange fnExactDependentRowSpec)

/-- ITS FALSE NEIGHBOUR: 'it returns false'. Refute it at one input. -/
def fnExactDependentRowWrong : ChangeSpec := { name := "fnExactDependentRow", fn := fun _ => fun
  | [d] => { results := [.lit (.bool false)], args := [d] }
  | _ => none }
def FnExactDependentRowWrongFalsely : Prop := fnExactDependentRowRow.holds Try.pinned (OpenSpec.ofChange fnExactDependentRowWrong)

/-- 'laws.FnExactOpenPermutations': WHATEVER THE INPUT: true; the input reads as it did. -/
def fnExactOpenPermutationsSpec : ChangeSpec := { name := "fnExactOpenPermutations", fn := fun _ => fun
  | [d] => { results := [.lit (.bool true)], args := [d] }
  | _ => none }
def fnExactOpenPermutationsRow : OpenClaim := { program := "ytgaaddfipkdlaab", sum := "0bbce0c269db513545c7f6b049d7b7055a0b8fa01b354e076663c87991750378", func := "loop.example/g01126/laws.FnExactOpenPermutations", spec := "fnExactOpenPermutations", unfollowed := true, recurses := true, apart := false }
def FnExactOpenPermutationsSaid : Prop := fnExactOpenPermutationsRow.holds Try.pinned (OpenSpec.ofChange fnExactOpenPermutationsSpec)

/-- ITS FALSE NEIGHBOUR: 'it returns false'. Refute it at one input. -/
def fnExactOpenPermutationsWrong : ChangeSpec := { name := "fnExactOpenPermutations", fn := fun _ => fun
  | [d] => { results := [.lit (.bool false)], args := [d] }
  | _ => none }
def FnExactOpenPermutationsWrongFalsely : Prop := fnExactOpenPermutationsRow.holds Try.pinned (OpenSpec.ofChange fnExactOpenPermutationsWrong)

/-- 'laws.FnExactCountOpen': WHATEVER THE INPUT: true; the input reads as it did. -/
def fnExactCountOpenSpec : ChangeSpec := { name := "fnExactCountOpen", fn := fun _ => fun
  | [d] => { results := [.lit (.bool true)], args := [d] }
  | _ => none }
def fnExactCountOpenRow : OpenClaim := { program := "ytgaaddfipkdlaab", sum := "0bbce0c269db513545c7f6b049d7b7055a0b8fa01b354e076663c87991750378", func := "loop.example/g01126/laws.FnExactCountOpen", spec := "fnExactCountOpen", unfollowed := true, recurses := true, apart := false }
def FnExactCountOpenSaid : Prop := fnExactCountOpenRow.holds Try.pinned (OpenSpec.ofChange fnExactCountOpenSpec)

/-- ITS FALSE NEIGHBOUR: 'it returns false'. Refute it at one input. -/
def fnExactCountOpenWrong : ChangeSpec := { name := "fnExactCountOpen", fn := fun _ => fun
  | [d] => { results := [.lit (.bool false)], args := [d] }
  | _ => none }
def FnExactCountOpenWrongFalsely : Prop := fnExactCountOpenRow.holds Try.pinned (OpenSpec.ofChange fnExactCountOpenWrong)

/- THE SECOND FORM. 'bulk': how many values and letters a reading holds, each counted each time it is reached (what is shared counts as often as it is met; a slice's spare places count too). A statement '..UptoSaid' is the law's where the arguments, and the package variables that the reading takes, are together of bulk at most 1048576: NARROWER than '..Said'. Prove '..Said' where nothing that the law and all that it calls make is longer than what came in: it says more and counts as full. Else prove '..UptoSaid'. A law counts once. -/
mutual
def uptoBulk {H : Type} : DataW H → Nat
  | .lit (.string bytes) => bytes.length + 1
  | .lit _ => 1
  | .nil => 1
  | .ptr d => uptoBulk d + 1
  | .slice elems spare => uptoBulkAll elems + uptoBulkAll spare + 1
  | .agg parts => uptoBulkAll parts + 1
  | .iface _ d => uptoBulk d + 1
  | .map entries => uptoBulkEntries entries + 1
  | .held _ => 1
def uptoBulkAll {H : Type} : List (DataW H) → Nat
  | [] => 0
  | d :: r => uptoBulk d + uptoBulkAll r
def uptoBulkEntries {H : Type} : List (Lit × DataW H) → Nat
  | [] => 0
  | x :: r => uptoBulkEntry x + uptoBulkEntries r
def uptoBulkEntry {H : Type} : Lit × DataW H → Nat
  | (.string bytes, d) => bytes.length + uptoBulk d + 1
  | (_, d) => uptoBulk d + 1
 end
def uptoSmall : (H : Type) → List (DataW H) → Bool := fun _ ds => decide (uptoBulkAll ds ≤ 1048576)
def OpenSpec.upto (s : _root_.Go.ChangeSpec) : _root_.Go.OpenSpec := { _root_.Go.OpenSpec.ofChange s with cond := some uptoSmall }

/-- 'laws.FnExactTableAt', WHERE WHAT IT READS IS OF BULK AT MOST 1048576: true; the input reads as it did. -/
def fnExactTableAtUptoRow : OpenClaim := { program := "ytgaaddfipkdlaab", sum := "0bbce0c269db513545c7f6b049d7b7055a0b8fa01b354e076663c87991750378", func := "loop.example/g01126/laws.FnExactTableAt", spec := "fnExactTableAt", unfollowed := true, recurses := true, apart := false, narrowed := true }
def FnExactTableAtUptoSaid : Prop := fnExactTableAtUptoRow.holds Try.pinned (OpenSpec.upto fnExactTableAtSpec)

/-- 'laws.FnExactExponentTable', WHERE WHAT IT READS IS OF BULK AT MOST 1048576: true; the input reads as it did. -/
def fnExactExponentTableUptoRow : OpenClaim := { program := "ytgaaddfipkdlaab", sum := "0bbce0c269db513545c7f6b049d7b7055a0b8fa01b354e076663c87991750378", func := "loop.example/g01126/laws.FnExactExponentTable", spec := "fnExactExponentTable", unfollowed := true, recurses := true, apart := false, narrowed := true }
def FnExactExponentTableUptoSaid : Prop := fnExactExponentTableUptoRow.holds Try.pinned (OpenSpec.upto fnExactExponentTableSpec)

/-- 'laws.FnExactSumOfTable', WHERE WHAT IT READS IS OF BULK AT MOST 1048576: true; the input reads as it did. -/
def fnExactSumOfTableUptoRow : OpenClaim := { program := "ytgaaddfipkdlaab", sum := "0bbce0c269db513545c7f6b049d7b7055a0b8fa01b354e076663c87991750378", func := "loop.example/g01126/laws.FnExactSumOfTable", spec := "fnExactSumOfTable", unfollowed := true, recurses := true, apart := false, narrowed := true }
def FnExactSumOfTableUptoSaid : Prop := fnExactSumOfTableUptoRow.holds Try.pinned (OpenSpec.upto fnExactSumOfTableSpec)

/-- 'laws.FnExactApplyTable', WHERE WHAT IT READS IS OF BULK AT MOST 1048576: true; the input reads as it did. -/
def fnExactApplyTableUptoRow : OpenClaim := { program := "ytgaaddfipkdlaab", sum := "0bbce0c269db513545c7f6b049d7b7055a0b8fa01b354e076663c87991750378", func := "loop.example/g01126/laws.FnExactApplyTable", spec := "fnExactApplyTable", unfollowed := true, recurses := true, apart := false, narrowed := true }
def FnExactApplyTableUptoSaid : Prop := fnExactApplyTableUptoRow.holds Try.pinned (OpenSpec.upto fnExactApplyTableSpec)

/-- 'laws.FnExactDeterminantOf', WHERE WHAT IT READS IS OF BULK AT MOST 1048576: true; the input reads as it did. -/
def fnExactDeterminantOfUptoRow : OpenClaim := { program := "ytgaaddfipkdlaab", sum := "0bbce0c269db513545c7f6b049d7b7055a0b8fa01b354e076663c87991750378", func := "loop.example/g01126/laws.FnExactDeterminantOf", spec := "fnExactDeterminantOf", unfollowed := true, recurses := true, apart := false, narrowed := true }
def FnExactDeterminantOfUptoSaid : Prop := fnExactDeterminantOfUptoRow.holds Try.pinned (OpenSpec.upto fnExactDeterminantOfSpec)

/-- 'laws.FnExactRankOf', WHERE WHAT IT READS IS OF BULK AT MOST 1048576: true; the input reads as it did. -/
def fnExactRankOfUptoRow : OpenClaim := { program := "ytgaaddfipkdlaab", sum := "0bbce0c269db513545c7f6b049d7b7055a0b8fa01b354e076663c87991750378", func := "loop.example/g01126/laws.FnExactRankOf", spec := "fnExactRankOf", unfollowed := true, recurses := true, apart := false, narrowed := true }
def FnExactRankOfUptoSaid : Prop := fnExactRankOfUptoRow.holds Try.pinned (OpenSpec.upto fnExactRankOfSpec)

/-- 'laws.FnExactDependentRow', WHERE WHAT IT READS IS OF BULK AT MOST 1048576: true; the input reads as it did. -/
def fnExactDependentRowUptoRow : OpenClaim := { program := "ytgaaddfipkdlaab", sum := "0bbce0c269db513545c7f6b049d7b7055a0b8fa01b354e076663c87991750378", func := "loop.example/g01126/laws.FnExactDependentRow", spec := "fnExactDependentRow", unfollowed := true, recurses := true, apart := false, narrowed := true }
def FnExactDependentRowUptoSaid : Prop := fnExactDependentRowUptoRow.holds Try.pinned (OpenSpec.upto fnExactDependentRowSpec)

/-- 'laws.FnExactOpenPermutations', WHERE WHAT IT READS IS OF BULK AT MOST 1048576: true; the input reads as it did. -/
def fnExactOpenPermutationsUptoRow : OpenClaim := { program := "ytgaaddfipkdlaab", sum := "0bbce0c269db513545c7f6b049d7b7055a0b8fa01b354e076663c87991750378", func := "loop.example/g01126/laws.FnExactOpenPermutations", spec := "fnExactOpenPermutations", unfollowed := true, recurses := true, apart := false, narrowed := true }
def FnExactOpenPermutationsUptoSaid : Prop := fnExactOpenPermutationsUptoRow.holds Try.pinned (OpenSpec.upto fnExactOpenPermutationsSpec)

/-- 'laws.FnExactCountOpen', WHERE WHAT IT READS IS OF BULK AT MOST 1048576: true; the input reads as it did. -/
def fnExactCountOpenUptoRow : OpenClaim := { program := "ytgaaddfipkdlaab", sum := "0bbce0c269db513545c7f6b049d7b7055a0b8fa01b354e076663c87991750378", func := "loop.example/g01126/laws.FnExactCountOpen", spec := "fnExactCountOpen", unfollowed := true, recurses := true, apart := false, narrowed := true }
def FnExactCountOpenUptoSaid : Prop := fnExactCountOpenUptoRow.holds Try.pinned (OpenSpec.upto fnExactCountOpenSpec)

end Rows
end Go.Proofs.Ytgaaddfipkdlaab
