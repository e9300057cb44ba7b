/-
  No cell of these rows narrows 'for every input' (looked for: loops, veiled, ifaces, maps, wideKeys, modest, calm, conditions, laid).
  DERIVED. THE GIVEN ROWS OF THIS SEAT. 14 by the template 'for every input the law returns true; each argument reads behind the call as it read before'; 0 by the template 'total and deterministic' (their statements: YtbkgkpfekbnpiaaTotals.lean).
  GIVEN WITH THE SEED: the statements are not yours to turn. If you find one false, say at which input.
  Laid BY PROGRAM, IN A SANDBOX (cutbox-rows.mjs): the forced cells as the released guide's own fill.sh prints them over the translation e82ae7acdf6a568d… (all of the seat's roots in one cut). By AI agents, Wed Nov 11 2026. No macro, syntax, notation, axiom, sorry.
-/
import Derived.Test.YtbkgkpfekbnpiaaChecked
import GoSem.Claim
import GoSem.ClaimJoined
import GoSem.ClaimMapViews
import Derived.JoinedTies
import Derived.KernelRfl
namespace Go.Proofs.Ytbkgkpfekbnpiaa
/- THE CELL 'sum', in the pinned program and in every row, IS THE sha256 OF THE DUMP (.gsa) THAT YtbkgkpfekbnpiaaProg.lean LOADS. Nothing in Lean hashes anything: it is a label: what it is worth is what the hold of that sum in a sandbox is worth. -/
noncomputable def Try.pinned : Pinned := { name := "ytbkgkpfekbnpiaa", sum := "e82ae7acdf6a568de8896d5f6c88b012fe3a5abbf4ca3d3ca011b8753cd4abe6", checked := Try.checked }
namespace Rows
def none {H : Type} : Left H := { results := [], args := [] }

/-- 'laws.FnLabelFlows': WHATEVER THE INPUT: true; the input reads as it did. -/
def fnLabelFlowsSpec : ChangeSpec := { name := "fnLabelFlows", fn := fun _ => fun
  | [d] => { results := [.lit (.bool true)], args := [d] }
  | _ => none }
def fnLabelFlowsRow : OpenClaim := { program := "ytbkgkpfekbnpiaa", sum := "e82ae7acdf6a568de8896d5f6c88b012fe3a5abbf4ca3d3ca011b8753cd4abe6", func := "loop.example/cloison/laws.FnLabelFlows", spec := "fnLabelFlows", apart := false }
def FnLabelFlowsSaid : Prop := fnLabelFlowsRow.holds Try.pinned (OpenSpec.ofChange fnLabelFlowsSpec)

/-- ITS FALSE NEIGHBOUR: 'it returns false'. Refute it at one input. -/
def fnLabelFlowsWrong : ChangeSpec := { name := "fnLabelFlows", fn := fun _ => fun
  | [d] => { results := [.lit (.bool false)], args := [d] }
  | _ => none }
def FnLabelFlowsWrongFalsely : Prop := fnLabelFlowsRow.holds Try.pinned (OpenSpec.ofChange fnLabelFlowsWrong)

/-- 'laws.FnLabelThree': WHATEVER THE INPUT: true; the input reads as it did. -/
def fnLabelThreeSpec : ChangeSpec := { name := "fnLabelThree", fn := fun _ => fun
  | [d1, d2] => { results := [.lit (.bool true)], args := [d1, d2] }
  | _ => none }
def fnLabelThreeRow : OpenClaim := { program := "ytbkgkpfekbnpiaa", sum := "e82ae7acdf6a568de8896d5f6c88b012fe3a5abbf4ca3d3ca011b8753cd4abe6", func := "loop.example/cloison/laws.FnLabelThree", spec := "fnLabelThree", apart := false }
def FnLabelThreeSaid : Prop := fnLabelThreeRow.holds Try.pinned (OpenSpec.ofChange fnLabelThreeSpec)

/-- ITS FALSE NEIGHBOUR: 'it returns false'. Refute it at one input. -/
def fnLabelThreeWrong : ChangeSpec := { name := "fnLabelThree", fn := fun _ => fun
  | [d1, d2] => { results := [.lit (.bool false)], args := [d1, d2] }
  | _ => none }
def FnLabelThreeWrongFalsely : Prop := fnLabelThreeRow.holds Try.pinned (OpenSpec.ofChange fnLabelThreeWrong)

/-- 'laws.FnLabelBoth': WHATEVER THE INPUT: true; the input reads as it did. -/
def fnLabelBothSpec : ChangeSpec := { name := "fnLabelBoth", fn := fun _ => fun
  | [d1, d2] => { results := [.lit (.bool true)], args := [d1, d2] }
  | _ => none }
def fnLabelBothRow : OpenClaim := { program := "ytbkgkpfekbnpiaa", sum := "e82ae7acdf6a568de8896d5f6c88b012fe3a5abbf4ca3d3ca011b8753cd4abe6", func := "loop.example/cloison/laws.FnLabelBoth", spec := "fnLabelBoth", apart := false }
def FnLabelBothSaid : Prop := fnLabelBothRow.holds Try.pinned (OpenSpec.ofChange fnLabelBothSpec)

/-- ITS FALSE NEIGHBOUR: 'it returns false'. Refute it at one input. -/
def fnLabelBothWrong : ChangeSpec := { name := "fnLabelBoth", fn := fun _ => fun
  | [d1, d2] => { results := [.lit (.bool false)], args := [d1, d2] }
  | _ => none }
def FnLabelBothWrongFalsely : Prop := fnLabelBothRow.holds Try.pinned (OpenSpec.ofChange fnLabelBothWrong)

/-- 'laws.FnLabelEither': WHATEVER THE INPUT: true; the input reads as it did. -/
def fnLabelEitherSpec : ChangeSpec := { name := "fnLabelEither", fn := fun _ => fun
  | [d1, d2] => { results := [.lit (.bool true)], args := [d1, d2] }
  | _ => none }
def fnLabelEitherRow : OpenClaim := { program := "ytbkgkpfekbnpiaa", sum := "e82ae7acdf6a568de8896d5f6c88b012fe3a5abbf4ca3d3ca011b8753cd4abe6", func := "loop.example/cloison/laws.FnLabelEither", spec := "fnLabelEither", apart := false }
def FnLabelEitherSaid : Prop := fnLabelEitherRow.holds Try.pinned (OpenSpec.ofChange fnLabelEitherSpec)

/-- ITS FALSE NEIGHBOUR: 'it returns false'. Refute it at one input. -/
def fnLabelEitherWrong : ChangeSpec := { name := "fnLabelEither", fn := fun _ => fun
  | [d1, d2] => { results := [.lit (.bool false)], args := [d1, d2] }
  | _ => none }
def FnLabelEitherWrongFalsely : Prop := fnLabelEitherRow.holds Try.pinned (OpenSpec.ofChange fnLabelEitherWrong)

/-- 'laws.FnLabelLaws': WHATEVER THE INPUT: true; the input reads as it did. -/
def fnLabelLawsSpec : ChangeSpec := { name := "fnLabelLaws", fn := fun _ => fun
  | [d] => { results := [.lit (.bool true)], args := [d] }
  | _ => none }
def fnLabelLawsRow : OpenClaim := { program := "ytbkgkpfekbnpiaa", sum := "e82ae7acdf6a568de8896d5f6c88b012fe3a5abbf4ca3d3ca011b8753cd4abe6", func := "loop.example/cloison/laws.FnLabelLaws", spec := "fnLabelLaws", apart := false }
def FnLabelLawsSaid : Prop := fnLabelLawsRow.holds Try.pinned (OpenSpec.ofChange fnLabelLawsSpec)

/-- ITS FALSE NEIGHBOUR: 'it returns false'. Refute it at one input. -/
def fnLabelLawsWrong : ChangeSpec := { name := "fnLabelLaws", fn := fun _ => fun
  | [d] => { results := [.lit (.bool false)], args := [d] }
  | _ => none }
def FnLabelLawsWrongFalsely : Prop := fnLabelLawsRow.holds Try.pinned (OpenSpec.ofChange fnLabelLawsWrong)

/-- 'laws.FnLabelBack': WHATEVER THE INPUT: true; the input reads as it did. -/
def fnLabelBackSpec : ChangeSpec := { name := "fnLabelBack", fn := fun _ => fun
  | [d] => { results := [.lit (.bool true)], args := [d] }
  | _ => none }
def fnLabelBackRow : OpenClaim := { program := "ytbkgkpfekbnpiaa", sum := "e82ae7acdf6a568de8896d5f6c88b012fe3a5abbf4ca3d3ca011b8753cd4abe6", func := "loop.example/cloison/laws.FnLabelBack", spec := "fnLabelBack", inPlace := ["internal/bytealg.IndexByteString", "internal/bytealg.IndexString"], recurses := true, named := ["internal/bytealg.MaxLen"], apart := false }
def FnLabelBackSaid : Prop := fnLabelBackRow.holds Try.pinned (OpenSpec.ofChange fnLabelBackSpec)

/-- ITS FALSE NEIGHBOUR: 'it returns false'. Refute it at one input. -/
def fnLabelBackWrong : ChangeSpec := { name := "fnLabelBack", fn := fun _ => fun
  | [d] => { results := [.lit (.bool false)], args := [d] }
  | _ => none }
def FnLabelBackWrongFalsely : Prop := fnLabelBackRow.holds Try.pinned (OpenSpec.ofChange fnLabelBackWrong)

/-- 'laws.FnLabelStrict': WHATEVER THE INPUT: true; the input reads as it did. -/
def fnLabelStrictSpec : ChangeSpec := { name := "fnLabelStrict", fn := fun _ => fun
  | [d] => { results := [.lit (.bool true)], args := [d] }
  | _ => none }
def fnLabelStrictRow : OpenClaim := { program := "ytbkgkpfekbnpiaa", sum := "e82ae7acdf6a568de8896d5f6c88b012fe3a5abbf4ca3d3ca011b8753cd4abe6", func := "loop.example/cloison/laws.FnLabelStrict", spec := "fnLabelStrict", inPlace := ["internal/bytealg.IndexByteString", "internal/bytealg.IndexString"], recurses := true, named := ["internal/bytealg.MaxLen"], apart := false }
def FnLabelStrictSaid : Prop := fnLabelStrictRow.holds Try.pinned (OpenSpec.ofChange fnLabelStrictSpec)

/-- ITS FALSE NEIGHBOUR: 'it returns false'. Refute it at one input. -/
def fnLabelStrictWrong : ChangeSpec := { name := "fnLabelStrict", fn := fun _ => fun
  | [d] => { results := [.lit (.bool false)], args := [d] }
  | _ => none }
def FnLabelStrictWrongFalsely : Prop := fnLabelStrictRow.holds Try.pinned (OpenSpec.ofChange fnLabelStrictWrong)

/-- 'laws.FnLabelEnds': WHATEVER THE INPUT: true; the input reads as it did. -/
def fnLabelEndsSpec : ChangeSpec := { name := "fnLabelEnds", fn := fun _ => fun
  | [d] => { results := [.lit (.bool true)], args := [d] }
  | _ => none }
def fnLabelEndsRow : OpenClaim := { program := "ytbkgkpfekbnpiaa", sum := "e82ae7acdf6a568de8896d5f6c88b012fe3a5abbf4ca3d3ca011b8753cd4abe6", func := "loop.example/cloison/laws.FnLabelEnds", spec := "fnLabelEnds", apart := false }
def FnLabelEndsSaid : Prop := fnLabelEndsRow.holds Try.pinned (OpenSpec.ofChange fnLabelEndsSpec)

/-- ITS FALSE NEIGHBOUR: 'it returns false'. Refute it at one input. -/
def fnLabelEndsWrong : ChangeSpec := { name := "fnLabelEnds", fn := fun _ => fun
  | [d] => { results := [.lit (.bool false)], args := [d] }
  | _ => none }
def FnLabelEndsWrongFalsely : Prop := fnLabelEndsRow.holds Try.pinned (OpenSpec.ofChange fnLabelEndsWrong)

/-- 'laws.FnExactLabelOk': WHATEVER THE INPUT: true; the input reads as it did. -/
def fnExactLabelOkSpec : ChangeSpec := { name := "fnExactLabelOk", fn := fun _ => fun
  | [d] => { results := [.lit (.bool true)], args := [d] }
  | _ => none }
def fnExactLabelOkRow : OpenClaim := { program := "ytbkgkpfekbnpiaa", sum := "e82ae7acdf6a568de8896d5f6c88b012fe3a5abbf4ca3d3ca011b8753cd4abe6", func := "loop.example/cloison/laws.FnExactLabelOk", spec := "fnExactLabelOk", apart := false }
def FnExactLabelOkSaid : Prop := fnExactLabelOkRow.holds Try.pinned (OpenSpec.ofChange fnExactLabelOkSpec)

/-- ITS FALSE NEIGHBOUR: 'it returns false'. Refute it at one input. -/
def fnExactLabelOkWrong : ChangeSpec := { name := "fnExactLabelOk", fn := fun _ => fun
  | [d] => { results := [.lit (.bool false)], args := [d] }
  | _ => none }
def FnExactLabelOkWrongFalsely : Prop := fnExactLabelOkRow.holds Try.pinned (OpenSpec.ofChange fnExactLabelOkWrong)

/-- 'laws.FnExactLabelFlows': WHATEVER THE INPUT: true; the input reads as it did. -/
def fnExactLabelFlowsSpec : ChangeSpec := { name := "fnExactLabelFlows", fn := fun _ => fun
  | [d1, d2] => { results := [.lit (.bool true)], args := [d1, d2] }
  | _ => none }
def fnExactLabelFlowsRow : OpenClaim := { program := "ytbkgkpfekbnpiaa", sum := "e82ae7acdf6a568de8896d5f6c88b012fe3a5abbf4ca3d3ca011b8753cd4abe6", func := "loop.example/cloison/laws.FnExactLabelFlows", spec := "fnExactLabelFlows", apart := false }
def FnExactLabelFlowsSaid : Prop := fnExactLabelFlowsRow.holds Try.pinned (OpenSpec.ofChange fnExactLabelFlowsSpec)

/-- ITS FALSE NEIGHBOUR: 'it returns false'. Refute it at one input. -/
def fnExactLabelFlowsWrong : ChangeSpec := { name := "fnExactLabelFlows", fn := fun _ => fun
  | [d1, d2] => { results := [.lit (.bool false)], args := [d1, d2] }
  | _ => none }
def FnExactLabelFlowsWrongFalsely : Prop := fnExactLabelFlowsRow.holds Try.pinned (OpenSpec.ofChange fnExactLabelFlowsWrong)

/-- 'laws.FnExactLabelBoth': WHATEVER THE INPUT: true; the input reads as it did. -/
def fnExactLabelBothSpec : ChangeSpec := { name := "fnExactLabelBoth", fn := fun _ => fun
  | [d1, d2] => { results := [.lit (.bool true)], args := [d1, d2] }
  | _ => none }
def fnExactLabelBothRow : OpenClaim := { program := "ytbkgkpfekbnpiaa", sum := "e82ae7acdf6a568de8896d5f6c88b012fe3a5abbf4ca3d3ca011b8753cd4abe6", func := "loop.example/cloison/laws.FnExactLabelBoth", spec := "fnExactLabelBoth", apart := false }
def FnExactLabelBothSaid : Prop := fnExactLabelBothRow.holds Try.pinned (OpenSpec.ofChange fnExactLabelBothSpec)

/-- ITS FALSE NEIGHBOUR: 'it returns false'. Refute it at one input. -/
def fnExactLabelBothWrong : ChangeSpec := { name := "fnExactLabelBoth", fn := fun _ => fun
  | [d1, d2] => { results := [.lit (.bool false)], args := [d1, d2] }
  | _ => none }
def FnExactLabelBothWrongFalsely : Prop := fnExactLabelBothRow.holds Try.pinned (OpenSpec.ofChange fnExactLabelBothWrong)

/-- 'laws.FnExactLabelEither': WHATEVER THE INPUT: true; the input reads as it did. -/
def fnExactLabelEitherSpec : ChangeSpec := { name := "fnExactLabelEither", fn := fun _ => fun
  | [d1, d2] => { results := [.lit (.bool true)], args := [d1, d2] }
  | _ => none }
def fnExactLabelEitherRow : OpenClaim := { program := "ytbkgkpfekbnpiaa", sum := "e82ae7acdf6a568de8896d5f6c88b012fe3a5abbf4ca3d3ca011b8753cd4abe6", func := "loop.example/cloison/laws.FnExactLabelEither", spec := "fnExactLabelEither", apart := false }
def FnExactLabelEitherSaid : Prop := fnExactLabelEitherRow.holds Try.pinned (OpenSpec.ofChange fnExactLabelEitherSpec)

/-- ITS FALSE NEIGHBOUR: 'it returns false'. Refute it at one input. -/
def fnExactLabelEitherWrong : ChangeSpec := { name := "fnExactLabelEither", fn := fun _ => fun
  | [d1, d2] => { results := [.lit (.bool false)], args := [d1, d2] }
  | _ => none }
def FnExactLabelEitherWrongFalsely : Prop := fnExactLabelEitherRow.holds Try.pinned (OpenSpec.ofChange fnExactLabelEitherWrong)

/-- 'laws.FnExactLabelText': WHATEVER THE INPUT: true; the input reads as it did. -/
def fnExactLabelTextSpec : ChangeSpec := { name := "fnExactLabelText", fn := fun _ => fun
  | [d] => { results := [.lit (.bool true)], args := [d] }
  | _ => none }
def fnExactLabelTextRow : OpenClaim := { program := "ytbkgkpfekbnpiaa", sum := "e82ae7acdf6a568de8896d5f6c88b012fe3a5abbf4ca3d3ca011b8753cd4abe6", func := "loop.example/cloison/laws.FnExactLabelText", spec := "fnExactLabelText", recurses := true, apart := false }
def FnExactLabelTextSaid : Prop := fnExactLabelTextRow.holds Try.pinned (OpenSpec.ofChange fnExactLabelTextSpec)

/-- ITS FALSE NEIGHBOUR: 'it returns false'. Refute it at one input. -/
def fnExactLabelTextWrong : ChangeSpec := { name := "fnExactLabelText", fn := fun _ => fun
  | [d] => { results := [.lit (.bool false)], args := [d] }
  | _ => none }
def FnExactLabelTextWrongFalsely : Prop := fnExactLabelTextRow.holds Try.pinned (OpenSpec.ofChange fnExactLabelTextWrong)

/-- 'laws.FnExactLabelRead': WHATEVER THE INPUT: true; the input reads as it did. -/
def fnExactLabelReadSpec : ChangeSpec := { name := "fnExactLabelRead", fn := fun _ => fun
  | [d] => { results := [.lit (.bool true)], args := [d] }
  | _ => none }
def fnExactLabelReadRow : OpenClaim := { program := "ytbkgkpfekbnpiaa", sum := "e82ae7acdf6a568de8896d5f6c88b012fe3a5abbf4ca3d3ca011b8753cd4abe6", func := "loop.example/cloison/laws.FnExactLabelRead", spec := "fnExactLabelRead", inPlace := ["internal/bytealg.IndexByteString", "internal/bytealg.IndexString"], recurses := true, named := ["internal/bytealg.MaxLen"], apart := false }
def FnExactLabelReadSaid : Prop := fnExactLabelReadRow.holds Try.pinned (OpenSpec.ofChange fnExactLabelReadSpec)

/-- ITS FALSE NEIGHBOUR: 'it returns false'. Refute it at one input. -/
def fnExactLabelReadWrong : ChangeSpec := { name := "fnExactLabelRead", fn := fun _ => fun
  | [d] => { results := [.lit (.bool false)], args := [d] }
  | _ => none }
def FnExactLabelReadWrongFalsely : Prop := fnExactLabelReadRow.holds Try.pinned (OpenSpec.ofChange fnExactLabelReadWrong)

/- THE SECOND FORM. 'bulk': how many values and letters a reading holds, each counted each time it is reached (what is shared counts as often as it is met; a slice's spare places count too). A statement '..UptoSaid' is the law's where the arguments, and the package variables that the reading takes, are together of bulk at most 1048576: NARROWER than '..Said'. Prove '..Said' where nothing that the law and all that it calls make is longer than what came in: it says more and counts as full. Else prove '..UptoSaid'. A law counts once. -/
mutual
def uptoBulk {H : Type} : DataW H → Nat
  | .lit (.string bytes) => bytes.length + 1
  | .lit _ => 1
  | .nil => 1
  | .ptr d => uptoBulk d + 1
  | .slice elems spare => uptoBulkAll elems + uptoBulkAll spare + 1
  | .agg parts => uptoBulkAll parts + 1
  | .iface _ d => uptoBulk d + 1
  | .map entries => uptoBulkEntries entries + 1
  | .held _ => 1
def uptoBulkAll {H : Type} : List (DataW H) → Nat
  | [] => 0
  | d :: r => uptoBulk d + uptoBulkAll r
def uptoBulkEntries {H : Type} : List (Lit × DataW H) → Nat
  | [] => 0
  | x :: r => uptoBulkEntry x + uptoBulkEntries r
def uptoBulkEntry {H : Type} : Lit × DataW H → Nat
  | (.string bytes, d) => bytes.length + uptoBulk d + 1
  | (_, d) => uptoBulk d + 1
 end
def uptoSmall : (H : Type) → List (DataW H) → Bool := fun _ ds => decide (uptoBulkAll ds ≤ 1048576)
def OpenSpec.upto (s : _root_.Go.ChangeSpec) : _root_.Go.OpenSpec := { _root_.Go.OpenSpec.ofChange s with cond := some uptoSmall }

/-- 'laws.FnLabelFlows', WHERE WHAT IT READS IS OF BULK AT MOST 1048576: true; the input reads as it did. -/
def fnLabelFlowsUptoRow : OpenClaim := { program := "ytbkgkpfekbnpiaa", sum := "e82ae7acdf6a568de8896d5f6c88b012fe3a5abbf4ca3d3ca011b8753cd4abe6", func := "loop.example/cloison/laws.FnLabelFlows", spec := "fnLabelFlows", apart := false, narrowed := true }
def FnLabelFlowsUptoSaid : Prop := fnLabelFlowsUptoRow.holds Try.pinned (OpenSpec.upto fnLabelFlowsSpec)

/-- 'laws.FnLabelThree', WHERE WHAT IT READS IS OF BULK AT MOST 1048576: true; the input reads as it did. -/
def fnLabelThreeUptoRow : OpenClaim := { program := "ytbkgkpfekbnpiaa", sum := "e82ae7acdf6a568de8896d5f6c88b012fe3a5abbf4ca3d3ca011b8753cd4abe6", func := "loop.example/cloison/laws.FnLabelThree", spec := "fnLabelThree", apart := false, narrowed := true }
def FnLabelThreeUptoSaid : Prop := fnLabelThreeUptoRow.holds Try.pinned (OpenSpec.upto fnLabelThreeSpec)

/-- 'laws.FnLabelBoth', WHERE WHAT IT READS IS OF BULK AT MOST 1048576: true; the input reads as it did. -/
def fnLabelBothUptoRow : OpenClaim := { program := "ytbkgkpfekbnpiaa", sum := "e82ae7acdf6a568de8896d5f6c88b012fe3a5abbf4ca3d3ca011b8753cd4abe6", func := "loop.example/cloison/laws.FnLabelBoth", spec := "fnLabelBoth", apart := false, narrowed := true }
def FnLabelBothUptoSaid : Prop := fnLabelBothUptoRow.holds Try.pinned (OpenSpec.upto fnLabelBothSpec)

/-- 'laws.FnLabelEither', WHERE WHAT IT READS IS OF BULK AT MOST 1048576: true; the input reads as it did. -/
def fnLabelEitherUptoRow : OpenClaim := { program := "ytbkgkpfekbnpiaa", sum := "e82ae7acdf6a568de8896d5f6c88b012fe3a5abbf4ca3d3ca011b8753cd4abe6", func := "loop.example/cloison/laws.FnLabelEither", spec := "fnLabelEither", apart := false, narrowed := true }
def FnLabelEitherUptoSaid : Prop := fnLabelEitherUptoRow.holds Try.pinned (OpenSpec.upto fnLabelEitherSpec)

/-- 'laws.FnLabelLaws', WHERE WHAT IT READS IS OF BULK AT MOST 1048576: true; the input reads as it did. -/
def fnLabelLawsUptoRow : OpenClaim := { program := "ytbkgkpfekbnpiaa", sum := "e82ae7acdf6a568de8896d5f6c88b012fe3a5abbf4ca3d3ca011b8753cd4abe6", func := "loop.example/cloison/laws.FnLabelLaws", spec := "fnLabelLaws", apart := false, narrowed := true }
def FnLabelLawsUptoSaid : Prop := fnLabelLawsUptoRow.holds Try.pinned (OpenSpec.upto fnLabelLawsSpec)

/-- 'laws.FnLabelBack', WHERE WHAT IT READS IS OF BULK AT MOST 1048576: true; the input reads as it did. -/
def fnLabelBackUptoRow : OpenClaim := { program := "ytbkgkpfekbnpiaa", sum := "e82ae7acdf6a568de8896d5f6c88b012fe3a5abbf4ca3d3ca011b8753cd4abe6", func := "loop.example/cloison/laws.FnLabelBack", spec := "fnLabelBack", inPlace := ["internal/bytealg.IndexByteString", "internal/bytealg.IndexString"], recurses := true, named := ["internal/bytealg.MaxLen"], apart := false, narrowed := true }
def FnLabelBackUptoSaid : Prop := fnLabelBackUptoRow.holds Try.pinned (OpenSpec.upto fnLabelBackSpec)

/-- 'laws.FnLabelStrict', WHERE WHAT IT READS IS OF BULK AT MOST 1048576: true; the input reads as it did. -/
def fnLabelStrictUptoRow : OpenClaim := { program := "ytbkgkpfekbnpiaa", sum := "e82ae7acdf6a568de8896d5f6c88b012fe3a5abbf4ca3d3ca011b8753cd4abe6", func := "loop.example/cloison/laws.FnLabelStrict", spec := "fnLabelStrict", inPlace := ["internal/bytealg.IndexByteString", "internal/bytealg.IndexString"], recurses := true, named := ["internal/bytealg.MaxLen"], apart := false, narrowed := true }
def FnLabelStrictUptoSaid : Prop := fnLabelStrictUptoRow.holds Try.pinned (OpenSpec.upto fnLabelStrictSpec)

/-- 'laws.FnLabelEnds', WHERE WHAT IT READS IS OF BULK AT MOST 1048576: true; the input reads as it did. -/
def fnLabelEndsUptoRow : OpenClaim := { program := "ytbkgkpfekbnpiaa", sum := "e82ae7acdf6a568de8896d5f6c88b012fe3a5abbf4ca3d3ca011b8753cd4abe6", func := "loop.example/cloison/laws.FnLabelEnds", spec := "fnLabelEnds", apart := false, narrowed := true }
def FnLabelEndsUptoSaid : Prop := fnLabelEndsUptoRow.holds Try.pinned (OpenSpec.upto fnLabelEndsSpec)

/-- 'laws.FnExactLabelOk', WHERE WHAT IT READS IS OF BULK AT MOST 1048576: true; the input reads as it did. -/
def fnExactLabelOkUptoRow : OpenClaim := { program := "ytbkgkpfekbnpiaa", sum := "e82ae7acdf6a568de8896d5f6c88b012fe3a5abbf4ca3d3ca011b8753cd4abe6", func := "loop.example/cloison/laws.FnExactLabelOk", spec := "fnExactLabelOk", apart := false, narrowed := true }
def FnExactLabelOkUptoSaid : Prop := fnExactLabelOkUptoRow.holds Try.pinned (OpenSpec.upto fnExactLabelOkSpec)

/-- 'laws.FnExactLabelFlows', WHERE WHAT IT READS IS OF BULK AT MOST 1048576: true; the input reads as it did. -/
def fnExactLabelFlowsUptoRow : OpenClaim := { program := "ytbkgkpfekbnpiaa", sum := "e82ae7acdf6a568de8896d5f6c88b012fe3a5abbf4ca3d3ca011b8753cd4abe6", func := "loop.example/cloison/laws.FnExactLabelFlows", spec := "fnExactLabelFlows", apart := false, narrowed := true }
def FnExactLabelFlowsUptoSaid : Prop := fnExactLabelFlowsUptoRow.holds Try.pinned (OpenSpec.upto fnExactLabelFlowsSpec)

/-- 'laws.FnExactLabelBoth', WHERE WHAT IT READS IS OF BULK AT MOST 1048576: true; the input reads as it did. -/
def fnExactLabelBothUptoRow : OpenClaim := { program := "ytbkgkpfekbnpiaa", sum := "e82ae7acdf6a568de8896d5f6c88b012fe3a5abbf4ca3d3ca011b8753cd4abe6", func := "loop.example/cloison/laws.FnExactLabelBoth", spec := "fnExactLabelBoth", apart := false, narrowed := true }
def FnExactLabelBothUptoSaid : Prop := fnExactLabelBothUptoRow.holds Try.pinned (OpenSpec.upto fnExactLabelBothSpec)

/-- 'laws.FnExactLabelEither', WHERE WHAT IT READS IS OF BULK AT MOST 1048576: true; the input reads as it did. -/
def fnExactLabelEitherUptoRow : OpenClaim := { program := "ytbkgkpfekbnpiaa", sum := "e82ae7acdf6a568de8896d5f6c88b012fe3a5abbf4ca3d3ca011b8753cd4abe6", func := "loop.example/cloison/laws.FnExactLabelEither", spec := "fnExactLabelEither", apart := false, narrowed := true }
def FnExactLabelEitherUptoSaid : Prop := fnExactLabelEitherUptoRow.holds Try.pinned (OpenSpec.upto fnExactLabelEitherSpec)

/-- 'laws.FnExactLabelText', WHERE WHAT IT READS IS OF BULK AT MOST 1048576: true; the input reads as it did. -/
def fnExactLabelTextUptoRow : OpenClaim := { program := "ytbkgkpfekbnpiaa", sum := "e82ae7acdf6a568de8896d5f6c88b012fe3a5abbf4ca3d3ca011b8753cd4abe6", func := "loop.example/cloison/laws.FnExactLabelText", spec := "fnExactLabelText", recurses := true, apart := false, narrowed := true }
def FnExactLabelTextUptoSaid : Prop := fnExactLabelTextUptoRow.holds Try.pinned (OpenSpec.upto fnExactLabelTextSpec)

/-- 'laws.FnExactLabelRead', WHERE WHAT IT READS IS OF BULK AT MOST 1048576: true; the input reads as it did. -/
def fnExactLabelReadUptoRow : OpenClaim := { program := "ytbkgkpfekbnpiaa", sum := "e82ae7acdf6a568de8896d5f6c88b012fe3a5abbf4ca3d3ca011b8753cd4abe6", func := "loop.example/cloison/laws.FnExactLabelRead", spec := "fnExactLabelRead", inPlace := ["internal/bytealg.IndexByteString", "internal/bytealg.IndexString"], recurses := true, named := ["internal/bytealg.MaxLen"], apart := false, narrowed := true }
def FnExactLabelReadUptoSaid : Prop := fnExactLabelReadUptoRow.holds Try.pinned (OpenSpec.upto fnExactLabelReadSpec)

end Rows
end Go.Proofs.Ytbkgkpfekbnpiaa
