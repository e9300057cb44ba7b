/-
  NARROWER THAN 'FOR EVERY INPUT', by the rows' own cells (each row's printed sentence says how): FnExactTypeKnows: loops · FnExactTypeTrusts: loops · FnExactRunOf: loops.
  DERIVED. THE GIVEN ROWS OF THIS SEAT. 16 by the template 'for every input the law returns true; each argument reads behind the call as it read before'; 0 by the template 'total and deterministic' (their statements: YtpcmhkcahajdgaaTotals.lean).
  GIVEN WITH THE SEED: the statements are not yours to turn. If you find one false, say at which input.
  Laid BY PROGRAM, IN A SANDBOX (cutbox-rows.mjs): the forced cells as the released guide's own fill.sh prints them over the translation 747a54519962df6f… (all of the seat's roots in one cut). By AI agents, Wed Nov 11 2026. No macro, syntax, notation, axiom, sorry.
-/
import Derived.Test.YtpcmhkcahajdgaaChecked
import GoSem.Claim
import GoSem.ClaimJoined
import GoSem.ClaimMapViews
import Derived.JoinedTies
import Derived.KernelRfl
namespace Go.Proofs.Ytpcmhkcahajdgaa
/- THE CELL 'sum', in the pinned program and in every row, IS THE sha256 OF THE DUMP (.gsa) THAT YtpcmhkcahajdgaaProg.lean LOADS. Nothing in Lean hashes anything: it is a label: what it is worth is what the hold of that sum in a sandbox is worth. -/
noncomputable def Try.pinned : Pinned := { name := "ytpcmhkcahajdgaa", sum := "747a54519962df6ff98babc0dee252b219ec2eb38f3c1b215fe9760276086c8c", checked := Try.checked }
namespace Rows
def none {H : Type} : Left H := { results := [], args := [] }

/-- 'laws.FnProgLess': WHATEVER THE INPUT: true; the input reads as it did. -/
def fnProgLessSpec : ChangeSpec := { name := "fnProgLess", fn := fun _ => fun
  | [d1, d2] => { results := [.lit (.bool true)], args := [d1, d2] }
  | _ => none }
def fnProgLessRow : OpenClaim := { program := "ytpcmhkcahajdgaa", sum := "747a54519962df6ff98babc0dee252b219ec2eb38f3c1b215fe9760276086c8c", func := "loop.example/cloison/laws.FnProgLess", spec := "fnProgLess", unfollowed := true, recurses := true, apart := false }
def FnProgLessSaid : Prop := fnProgLessRow.holds Try.pinned (OpenSpec.ofChange fnProgLessSpec)

/-- ITS FALSE NEIGHBOUR: 'it returns false'. Refute it at one input. -/
def fnProgLessWrong : ChangeSpec := { name := "fnProgLess", fn := fun _ => fun
  | [d1, d2] => { results := [.lit (.bool false)], args := [d1, d2] }
  | _ => none }
def FnProgLessWrongFalsely : Prop := fnProgLessRow.holds Try.pinned (OpenSpec.ofChange fnProgLessWrong)

/-- 'laws.FnProgSize': WHATEVER THE INPUT: true; the input reads as it did. -/
def fnProgSizeSpec : ChangeSpec := { name := "fnProgSize", fn := fun _ => fun
  | [d] => { results := [.lit (.bool true)], args := [d] }
  | _ => none }
def fnProgSizeRow : OpenClaim := { program := "ytpcmhkcahajdgaa", sum := "747a54519962df6ff98babc0dee252b219ec2eb38f3c1b215fe9760276086c8c", func := "loop.example/cloison/laws.FnProgSize", spec := "fnProgSize", unfollowed := true, recurses := true, apart := false }
def FnProgSizeSaid : Prop := fnProgSizeRow.holds Try.pinned (OpenSpec.ofChange fnProgSizeSpec)

/-- ITS FALSE NEIGHBOUR: 'it returns false'. Refute it at one input. -/
def fnProgSizeWrong : ChangeSpec := { name := "fnProgSize", fn := fun _ => fun
  | [d] => { results := [.lit (.bool false)], args := [d] }
  | _ => none }
def FnProgSizeWrongFalsely : Prop := fnProgSizeRow.holds Try.pinned (OpenSpec.ofChange fnProgSizeWrong)

/-- 'laws.FnProgAt': WHATEVER THE INPUT: true; the input reads as it did. -/
def fnProgAtSpec : ChangeSpec := { name := "fnProgAt", fn := fun _ => fun
  | [d] => { results := [.lit (.bool true)], args := [d] }
  | _ => none }
def fnProgAtRow : OpenClaim := { program := "ytpcmhkcahajdgaa", sum := "747a54519962df6ff98babc0dee252b219ec2eb38f3c1b215fe9760276086c8c", func := "loop.example/cloison/laws.FnProgAt", spec := "fnProgAt", unfollowed := true, recurses := true, apart := false }
def FnProgAtSaid : Prop := fnProgAtRow.holds Try.pinned (OpenSpec.ofChange fnProgAtSpec)

/-- ITS FALSE NEIGHBOUR: 'it returns false'. Refute it at one input. -/
def fnProgAtWrong : ChangeSpec := { name := "fnProgAt", fn := fun _ => fun
  | [d] => { results := [.lit (.bool false)], args := [d] }
  | _ => none }
def FnProgAtWrongFalsely : Prop := fnProgAtRow.holds Try.pinned (OpenSpec.ofChange fnProgAtWrong)

/-- 'laws.FnRunOf': WHATEVER THE INPUT: true; the input reads as it did. -/
def fnRunOfSpec : ChangeSpec := { name := "fnRunOf", fn := fun _ => fun
  | [d] => { results := [.lit (.bool true)], args := [d] }
  | _ => none }
def fnRunOfRow : OpenClaim := { program := "ytpcmhkcahajdgaa", sum := "747a54519962df6ff98babc0dee252b219ec2eb38f3c1b215fe9760276086c8c", func := "loop.example/cloison/laws.FnRunOf", spec := "fnRunOf", unfollowed := true, recurses := true, apart := false }
def FnRunOfSaid : Prop := fnRunOfRow.holds Try.pinned (OpenSpec.ofChange fnRunOfSpec)

/-- ITS FALSE NEIGHBOUR: 'it returns false'. Refute it at one input. -/
def fnRunOfWrong : ChangeSpec := { name := "fnRunOf", fn := fun _ => fun
  | [d] => { results := [.lit (.bool false)], args := [d] }
  | _ => none }
def FnRunOfWrongFalsely : Prop := fnRunOfRow.holds Try.pinned (OpenSpec.ofChange fnRunOfWrong)

/-- 'laws.FnRunCut': WHATEVER THE INPUT: true; the input reads as it did. -/
def fnRunCutSpec : ChangeSpec := { name := "fnRunCut", fn := fun _ => fun
  | [d1, d2] => { results := [.lit (.bool true)], args := [d1, d2] }
  | _ => none }
def fnRunCutRow : OpenClaim := { program := "ytpcmhkcahajdgaa", sum := "747a54519962df6ff98babc0dee252b219ec2eb38f3c1b215fe9760276086c8c", func := "loop.example/cloison/laws.FnRunCut", spec := "fnRunCut", unfollowed := true, recurses := true, apart := false }
def FnRunCutSaid : Prop := fnRunCutRow.holds Try.pinned (OpenSpec.ofChange fnRunCutSpec)

/-- ITS FALSE NEIGHBOUR: 'it returns false'. Refute it at one input. -/
def fnRunCutWrong : ChangeSpec := { name := "fnRunCut", fn := fun _ => fun
  | [d1, d2] => { results := [.lit (.bool false)], args := [d1, d2] }
  | _ => none }
def FnRunCutWrongFalsely : Prop := fnRunCutRow.holds Try.pinned (OpenSpec.ofChange fnRunCutWrong)

/-- 'laws.FnRunNums': WHATEVER THE INPUT: true; the input reads as it did. -/
def fnRunNumsSpec : ChangeSpec := { name := "fnRunNums", fn := fun _ => fun
  | [d] => { results := [.lit (.bool true)], args := [d] }
  | _ => none }
def fnRunNumsRow : OpenClaim := { program := "ytpcmhkcahajdgaa", sum := "747a54519962df6ff98babc0dee252b219ec2eb38f3c1b215fe9760276086c8c", func := "loop.example/cloison/laws.FnRunNums", spec := "fnRunNums", unfollowed := true, recurses := true, apart := false }
def FnRunNumsSaid : Prop := fnRunNumsRow.holds Try.pinned (OpenSpec.ofChange fnRunNumsSpec)

/-- ITS FALSE NEIGHBOUR: 'it returns false'. Refute it at one input. -/
def fnRunNumsWrong : ChangeSpec := { name := "fnRunNums", fn := fun _ => fun
  | [d] => { results := [.lit (.bool false)], args := [d] }
  | _ => none }
def FnRunNumsWrongFalsely : Prop := fnRunNumsRow.holds Try.pinned (OpenSpec.ofChange fnRunNumsWrong)

/-- 'laws.FnTypeKnows': WHATEVER THE INPUT: true; the input reads as it did. -/
def fnTypeKnowsSpec : ChangeSpec := { name := "fnTypeKnows", fn := fun _ => fun
  | [d] => { results := [.lit (.bool true)], args := [d] }
  | _ => none }
def fnTypeKnowsRow : OpenClaim := { program := "ytpcmhkcahajdgaa", sum := "747a54519962df6ff98babc0dee252b219ec2eb38f3c1b215fe9760276086c8c", func := "loop.example/cloison/laws.FnTypeKnows", spec := "fnTypeKnows", unfollowed := true, recurses := true, apart := false }
def FnTypeKnowsSaid : Prop := fnTypeKnowsRow.holds Try.pinned (OpenSpec.ofChange fnTypeKnowsSpec)

/-- ITS FALSE NEIGHBOUR: 'it returns false'. Refute it at one input. -/
def fnTypeKnowsWrong : ChangeSpec := { name := "fnTypeKnows", fn := fun _ => fun
  | [d] => { results := [.lit (.bool false)], args := [d] }
  | _ => none }
def FnTypeKnowsWrongFalsely : Prop := fnTypeKnowsRow.holds Try.pinned (OpenSpec.ofChange fnTypeKnowsWrong)

/-- 'laws.FnTypeTrusts': WHATEVER THE INPUT: true; the input reads as it did. -/
def fnTypeTrustsSpec : ChangeSpec := { name := "fnTypeTrusts", fn := fun _ => fun
  | [d] => { results := [.lit (.bool true)], args := [d] }
  | _ => none }
def fnTypeTrustsRow : OpenClaim := { program := "ytpcmhkcahajdgaa", sum := "747a54519962df6ff98babc0dee252b219ec2eb38f3c1b215fe9760276086c8c", func := "loop.example/cloison/laws.FnTypeTrusts", spec := "fnTypeTrusts", unfollowed := true, recurses := true, apart := false }
def FnTypeTrustsSaid : Prop := fnTypeTrustsRow.holds Try.pinned (OpenSpec.ofChange fnTypeTrustsSpec)

/-- ITS FALSE NEIGHBOUR: 'it returns false'. Refute it at one input. -/
def fnTypeTrustsWrong : ChangeSpec := { name := "fnTypeTrusts", fn := fun _ => fun
  | [d] => { results := [.lit (.bool false)], args := [d] }
  | _ => none }
def FnTypeTrustsWrongFalsely : Prop := fnTypeTrustsRow.holds Try.pinned (OpenSpec.ofChange fnTypeTrustsWrong)

/-- 'laws.FnTypeHides': WHATEVER THE INPUT: true; the input reads as it did. -/
def fnTypeHidesSpec : ChangeSpec := { name := "fnTypeHides", fn := fun _ => fun
  | [d1, d2] => { results := [.lit (.bool true)], args := [d1, d2] }
  | _ => none }
def fnTypeHidesRow : OpenClaim := { program := "ytpcmhkcahajdgaa", sum := "747a54519962df6ff98babc0dee252b219ec2eb38f3c1b215fe9760276086c8c", func := "loop.example/cloison/laws.FnTypeHides", spec := "fnTypeHides", unfollowed := true, recurses := true, apart := false }
def FnTypeHidesSaid : Prop := fnTypeHidesRow.holds Try.pinned (OpenSpec.ofChange fnTypeHidesSpec)

/-- ITS FALSE NEIGHBOUR: 'it returns false'. Refute it at one input. -/
def fnTypeHidesWrong : ChangeSpec := { name := "fnTypeHides", fn := fun _ => fun
  | [d1, d2] => { results := [.lit (.bool false)], args := [d1, d2] }
  | _ => none }
def FnTypeHidesWrongFalsely : Prop := fnTypeHidesRow.holds Try.pinned (OpenSpec.ofChange fnTypeHidesWrong)

/-- 'laws.FnTypeKeeps': WHATEVER THE INPUT: true; the input reads as it did. -/
def fnTypeKeepsSpec : ChangeSpec := { name := "fnTypeKeeps", fn := fun _ => fun
  | [d1, d2] => { results := [.lit (.bool true)], args := [d1, d2] }
  | _ => none }
def fnTypeKeepsRow : OpenClaim := { program := "ytpcmhkcahajdgaa", sum := "747a54519962df6ff98babc0dee252b219ec2eb38f3c1b215fe9760276086c8c", func := "loop.example/cloison/laws.FnTypeKeeps", spec := "fnTypeKeeps", unfollowed := true, recurses := true, apart := false }
def FnTypeKeepsSaid : Prop := fnTypeKeepsRow.holds Try.pinned (OpenSpec.ofChange fnTypeKeepsSpec)

/-- ITS FALSE NEIGHBOUR: 'it returns false'. Refute it at one input. -/
def fnTypeKeepsWrong : ChangeSpec := { name := "fnTypeKeeps", fn := fun _ => fun
  | [d1, d2] => { results := [.lit (.bool false)], args := [d1, d2] }
  | _ => none }
def FnTypeKeepsWrongFalsely : Prop := fnTypeKeepsRow.holds Try.pinned (OpenSpec.ofChange fnTypeKeepsWrong)

/-- 'laws.FnRunIf': WHATEVER THE INPUT: true; the input reads as it did. -/
def fnRunIfSpec : ChangeSpec := { name := "fnRunIf", fn := fun _ => fun
  | [d1, d2] => { results := [.lit (.bool true)], args := [d1, d2] }
  | _ => none }
def fnRunIfRow : OpenClaim := { program := "ytpcmhkcahajdgaa", sum := "747a54519962df6ff98babc0dee252b219ec2eb38f3c1b215fe9760276086c8c", func := "loop.example/cloison/laws.FnRunIf", spec := "fnRunIf", unfollowed := true, recurses := true, apart := false }
def FnRunIfSaid : Prop := fnRunIfRow.holds Try.pinned (OpenSpec.ofChange fnRunIfSpec)

/-- ITS FALSE NEIGHBOUR: 'it returns false'. Refute it at one input. -/
def fnRunIfWrong : ChangeSpec := { name := "fnRunIf", fn := fun _ => fun
  | [d1, d2] => { results := [.lit (.bool false)], args := [d1, d2] }
  | _ => none }
def FnRunIfWrongFalsely : Prop := fnRunIfRow.holds Try.pinned (OpenSpec.ofChange fnRunIfWrong)

/-- 'laws.FnRunVal': WHATEVER THE INPUT: true; the input reads as it did. -/
def fnRunValSpec : ChangeSpec := { name := "fnRunVal", fn := fun _ => fun
  | [d1, d2] => { results := [.lit (.bool true)], args := [d1, d2] }
  | _ => none }
def fnRunValRow : OpenClaim := { program := "ytpcmhkcahajdgaa", sum := "747a54519962df6ff98babc0dee252b219ec2eb38f3c1b215fe9760276086c8c", func := "loop.example/cloison/laws.FnRunVal", spec := "fnRunVal", unfollowed := true, recurses := true, apart := false }
def FnRunValSaid : Prop := fnRunValRow.holds Try.pinned (OpenSpec.ofChange fnRunValSpec)

/-- ITS FALSE NEIGHBOUR: 'it returns false'. Refute it at one input. -/
def fnRunValWrong : ChangeSpec := { name := "fnRunVal", fn := fun _ => fun
  | [d1, d2] => { results := [.lit (.bool false)], args := [d1, d2] }
  | _ => none }
def FnRunValWrongFalsely : Prop := fnRunValRow.holds Try.pinned (OpenSpec.ofChange fnRunValWrong)

/-- 'laws.FnRunSwap': WHATEVER THE INPUT: true; the input reads as it did. -/
def fnRunSwapSpec : ChangeSpec := { name := "fnRunSwap", fn := fun _ => fun
  | [d1, d2] => { results := [.lit (.bool true)], args := [d1, d2] }
  | _ => none }
def fnRunSwapRow : OpenClaim := { program := "ytpcmhkcahajdgaa", sum := "747a54519962df6ff98babc0dee252b219ec2eb38f3c1b215fe9760276086c8c", func := "loop.example/cloison/laws.FnRunSwap", spec := "fnRunSwap", unfollowed := true, recurses := true, apart := false }
def FnRunSwapSaid : Prop := fnRunSwapRow.holds Try.pinned (OpenSpec.ofChange fnRunSwapSpec)

/-- ITS FALSE NEIGHBOUR: 'it returns false'. Refute it at one input. -/
def fnRunSwapWrong : ChangeSpec := { name := "fnRunSwap", fn := fun _ => fun
  | [d1, d2] => { results := [.lit (.bool false)], args := [d1, d2] }
  | _ => none }
def FnRunSwapWrongFalsely : Prop := fnRunSwapRow.holds Try.pinned (OpenSpec.ofChange fnRunSwapWrong)

/-- 'laws.FnExactTypeKnows': WHATEVER THE INPUT: true; the input reads as it did. -/
def fnExactTypeKnowsSpec : ChangeSpec := { name := "fnExactTypeKnows", fn := fun _ => fun
  | [d1, d2] => { results := [.lit (.bool true)], args := [d1, d2] }
  | _ => none }
def fnExactTypeKnowsRow : OpenClaim := { program := "ytpcmhkcahajdgaa", sum := "747a54519962df6ff98babc0dee252b219ec2eb38f3c1b215fe9760276086c8c", func := "loop.example/cloison/laws.FnExactTypeKnows", spec := "fnExactTypeKnows", unfollowed := true, recurses := true, loops := true, apart := false }
def FnExactTypeKnowsSaid : Prop := fnExactTypeKnowsRow.holds Try.pinned (OpenSpec.ofChange fnExactTypeKnowsSpec)

/-- ITS FALSE NEIGHBOUR: 'it returns false'. Refute it at one input. -/
def fnExactTypeKnowsWrong : ChangeSpec := { name := "fnExactTypeKnows", fn := fun _ => fun
  | [d1, d2] => { results := [.lit (.bool false)], args := [d1, d2] }
  | _ => none }
def FnExactTypeKnowsWrongFalsely : Prop := fnExactTypeKnowsRow.holds Try.pinned (OpenSpec.ofChange fnExactTypeKnowsWrong)

/-- 'laws.FnExactTypeTrusts': WHATEVER THE INPUT: true; the input reads as it did. -/
def fnExactTypeTrustsSpec : ChangeSpec := { name := "fnExactTypeTrusts", fn := fun _ => fun
  | [d1, d2] => { results := [.lit (.bool true)], args := [d1, d2] }
  | _ => none }
def fnExactTypeTrustsRow : OpenClaim := { program := "ytpcmhkcahajdgaa", sum := "747a54519962df6ff98babc0dee252b219ec2eb38f3c1b215fe9760276086c8c", func := "loop.example/cloison/laws.FnExactTypeTrusts", spec := "fnExactTypeTrusts", unfollowed := true, recurses := true, loops := true, apart := false }
def FnExactTypeTrustsSaid : Prop := fnExactTypeTrustsRow.holds Try.pinned (OpenSpec.ofChange fnExactTypeTrustsSpec)

/-- ITS FALSE NEIGHBOUR: 'it returns false'. Refute it at one input. -/
def fnExactTypeTrustsWrong : ChangeSpec := { name := "fnExactTypeTrusts", fn := fun _ => fun
  | [d1, d2] => { results := [.lit (.bool false)], args := [d1, d2] }
  | _ => none }
def FnExactTypeTrustsWrongFalsely : Prop := fnExactTypeTrustsRow.holds Try.pinned (OpenSpec.ofChange fnExactTypeTrustsWrong)

/-- 'laws.FnExactRunOf': WHATEVER THE INPUT: true; the input reads as it did. -/
def fnExactRunOfSpec : ChangeSpec := { name := "fnExactRunOf", fn := fun _ => fun
  | [d1, d2] => { results := [.lit (.bool true)], args := [d1, d2] }
  | _ => none }
def fnExactRunOfRow : OpenClaim := { program := "ytpcmhkcahajdgaa", sum := "747a54519962df6ff98babc0dee252b219ec2eb38f3c1b215fe9760276086c8c", func := "loop.example/cloison/laws.FnExactRunOf", spec := "fnExactRunOf", unfollowed := true, recurses := true, loops := true, apart := false }
def FnExactRunOfSaid : Prop := fnExactRunOfRow.holds Try.pinned (OpenSpec.ofChange fnExactRunOfSpec)

/-- ITS FALSE NEIGHBOUR: 'it returns false'. Refute it at one input. -/
def fnExactRunOfWrong : ChangeSpec := { name := "fnExactRunOf", fn := fun _ => fun
  | [d1, d2] => { results := [.lit (.bool false)], args := [d1, d2] }
  | _ => none }
def FnExactRunOfWrongFalsely : Prop := fnExactRunOfRow.holds Try.pinned (OpenSpec.ofChange fnExactRunOfWrong)

/- THE SECOND FORM. 'bulk': how many values and letters a reading holds, each counted each time it is reached (what is shared counts as often as it is met; a slice's spare places count too). A statement '..UptoSaid' is the law's where the arguments, and the package variables that the reading takes, are together of bulk at most 1048576: NARROWER than '..Said'. Prove '..Said' where nothing that the law and all that it calls make is longer than what came in: it says more and counts as full. Else prove '..UptoSaid'. A law counts once. -/
mutual
def uptoBulk {H : Type} : DataW H → Nat
  | .lit (.string bytes) => bytes.length + 1
  | .lit _ => 1
  | .nil => 1
  | .ptr d => uptoBulk d + 1
  | .slice elems spare => uptoBulkAll elems + uptoBulkAll spare + 1
  | .agg parts => uptoBulkAll parts + 1
  | .iface _ d => uptoBulk d + 1
  | .map entries => uptoBulkEntries entries + 1
  | .held _ => 1
def uptoBulkAll {H : Type} : List (DataW H) → Nat
  | [] => 0
  | d :: r => uptoBulk d + uptoBulkAll r
def uptoBulkEntries {H : Type} : List (Lit × DataW H) → Nat
  | [] => 0
  | x :: r => uptoBulkEntry x + uptoBulkEntries r
def uptoBulkEntry {H : Type} : Lit × DataW H → Nat
  | (.string bytes, d) => bytes.length + uptoBulk d + 1
  | (_, d) => uptoBulk d + 1
 end
def uptoSmall : (H : Type) → List (DataW H) → Bool := fun _ ds => decide (uptoBulkAll ds ≤ 1048576)
def OpenSpec.upto (s : _root_.Go.ChangeSpec) : _root_.Go.OpenSpec := { _root_.Go.OpenSpec.ofChange s with cond := some uptoSmall }

/-- 'laws.FnProgLess', WHERE WHAT IT READS IS OF BULK AT MOST 1048576: true; the input reads as it did. -/
def fnProgLessUptoRow : OpenClaim := { program := "ytpcmhkcahajdgaa", sum := "747a54519962df6ff98babc0dee252b219ec2eb38f3c1b215fe9760276086c8c", func := "loop.example/cloison/laws.FnProgLess", spec := "fnProgLess", unfollowed := true, recurses := true, apart := false, narrowed := true }
def FnProgLessUptoSaid : Prop := fnProgLessUptoRow.holds Try.pinned (OpenSpec.upto fnProgLessSpec)

/-- 'laws.FnProgSize', WHERE WHAT IT READS IS OF BULK AT MOST 1048576: true; the input reads as it did. -/
def fnProgSizeUptoRow : OpenClaim := { program := "ytpcmhkcahajdgaa", sum := "747a54519962df6ff98babc0dee252b219ec2eb38f3c1b215fe9760276086c8c", func := "loop.example/cloison/laws.FnProgSize", spec := "fnProgSize", unfollowed := true, recurses := true, apart := false, narrowed := true }
def FnProgSizeUptoSaid : Prop := fnProgSizeUptoRow.holds Try.pinned (OpenSpec.upto fnProgSizeSpec)

/-- 'laws.FnProgAt', WHERE WHAT IT READS IS OF BULK AT MOST 1048576: true; the input reads as it did. -/
def fnProgAtUptoRow : OpenClaim := { program := "ytpcmhkcahajdgaa", sum := "747a54519962df6ff98babc0dee252b219ec2eb38f3c1b215fe9760276086c8c", func := "loop.example/cloison/laws.FnProgAt", spec := "fnProgAt", unfollowed := true, recurses := true, apart := false, narrowed := true }
def FnProgAtUptoSaid : Prop := fnProgAtUptoRow.holds Try.pinned (OpenSpec.upto fnProgAtSpec)

/-- 'laws.FnRunOf', WHERE WHAT IT READS IS OF BULK AT MOST 1048576: true; the input reads as it did. -/
def fnRunOfUptoRow : OpenClaim := { program := "ytpcmhkcahajdgaa", sum := "747a54519962df6ff98babc0dee252b219ec2eb38f3c1b215fe9760276086c8c", func := "loop.example/cloison/laws.FnRunOf", spec := "fnRunOf", unfollowed := true, recurses := true, apart := false, narrowed := true }
def FnRunOfUptoSaid : Prop := fnRunOfUptoRow.holds Try.pinned (OpenSpec.upto fnRunOfSpec)

/-- 'laws.FnRunCut', WHERE WHAT IT READS IS OF BULK AT MOST 1048576: true; the input reads as it did. -/
def fnRunCutUptoRow : OpenClaim := { program := "ytpcmhkcahajdgaa", sum := "747a54519962df6ff98babc0dee252b219ec2eb38f3c1b215fe9760276086c8c", func := "loop.example/cloison/laws.FnRunCut", spec := "fnRunCut", unfollowed := true, recurses := true, apart := false, narrowed := true }
def FnRunCutUptoSaid : Prop := fnRunCutUptoRow.holds Try.pinned (OpenSpec.upto fnRunCutSpec)

/-- 'laws.FnRunNums', WHERE WHAT IT READS IS OF BULK AT MOST 1048576: true; the input reads as it did. -/
def fnRunNumsUptoRow : OpenClaim := { program := "ytpcmhkcahajdgaa", sum := "747a54519962df6ff98babc0dee252b219ec2eb38f3c1b215fe9760276086c8c", func := "loop.example/cloison/laws.FnRunNums", spec := "fnRunNums", unfollowed := true, recurses := true, apart := false, narrowed := true }
def FnRunNumsUptoSaid : Prop := fnRunNumsUptoRow.holds Try.pinned (OpenSpec.upto fnRunNumsSpec)

/-- 'laws.FnTypeKnows', WHERE WHAT IT READS IS OF BULK AT MOST 1048576: true; the input reads as it did. -/
def fnTypeKnowsUptoRow : OpenClaim := { program := "ytpcmhkcahajdgaa", sum := "747a54519962df6ff98babc0dee252b219ec2eb38f3c1b215fe9760276086c8c", func := "loop.example/cloison/laws.FnTypeKnows", spec := "fnTypeKnows", unfollowed := true, recurses := true, apart := false, narrowed := true }
def FnTypeKnowsUptoSaid : Prop := fnTypeKnowsUptoRow.holds Try.pinned (OpenSpec.upto fnTypeKnowsSpec)

/-- 'laws.FnTypeTrusts', WHERE WHAT IT READS IS OF BULK AT MOST 1048576: true; the input reads as it did. -/
def fnTypeTrustsUptoRow : OpenClaim := { program := "ytpcmhkcahajdgaa", sum := "747a54519962df6ff98babc0dee252b219ec2eb38f3c1b215fe9760276086c8c", func := "loop.example/cloison/laws.FnTypeTrusts", spec := "fnTypeTrusts", unfollowed := true, recurses := true, apart := false, narrowed := true }
def FnTypeTrustsUptoSaid : Prop := fnTypeTrustsUptoRow.holds Try.pinned (OpenSpec.upto fnTypeTrustsSpec)

/-- 'laws.FnTypeHides', WHERE WHAT IT READS IS OF BULK AT MOST 1048576: true; the input reads as it did. -/
def fnTypeHidesUptoRow : OpenClaim := { program := "ytpcmhkcahajdgaa", sum := "747a54519962df6ff98babc0dee252b219ec2eb38f3c1b215fe9760276086c8c", func := "loop.example/cloison/laws.FnTypeHides", spec := "fnTypeHides", unfollowed := true, recurses := true, apart := false, narrowed := true }
def FnTypeHidesUptoSaid : Prop := fnTypeHidesUptoRow.holds Try.pinned (OpenSpec.upto fnTypeHidesSpec)

/-- 'laws.FnTypeKeeps', WHERE WHAT IT READS IS OF BULK AT MOST 1048576: true; the input reads as it did. -/
def fnTypeKeepsUptoRow : OpenClaim := { program := "ytpcmhkcahajdgaa", sum := "747a54519962df6ff98babc0dee252b219ec2eb38f3c1b215fe9760276086c8c", func := "loop.example/cloison/laws.FnTypeKeeps", spec := "fnTypeKeeps", unfollowed := true, recurses := true, apart := false, narrowed := true }
def FnTypeKeepsUptoSaid : Prop := fnTypeKeepsUptoRow.holds Try.pinned (OpenSpec.upto fnTypeKeepsSpec)

/-- 'laws.FnRunIf', WHERE WHAT IT READS IS OF BULK AT MOST 1048576: true; the input reads as it did. -/
def fnRunIfUptoRow : OpenClaim := { program := "ytpcmhkcahajdgaa", sum := "747a54519962df6ff98babc0dee252b219ec2eb38f3c1b215fe9760276086c8c", func := "loop.example/cloison/laws.FnRunIf", spec := "fnRunIf", unfollowed := true, recurses := true, apart := false, narrowed := true }
def FnRunIfUptoSaid : Prop := fnRunIfUptoRow.holds Try.pinned (OpenSpec.upto fnRunIfSpec)

/-- 'laws.FnRunVal', WHERE WHAT IT READS IS OF BULK AT MOST 1048576: true; the input reads as it did. -/
def fnRunValUptoRow : OpenClaim := { program := "ytpcmhkcahajdgaa", sum := "747a54519962df6ff98babc0dee252b219ec2eb38f3c1b215fe9760276086c8c", func := "loop.example/cloison/laws.FnRunVal", spec := "fnRunVal", unfollowed := true, recurses := true, apart := false, narrowed := true }
def FnRunValUptoSaid : Prop := fnRunValUptoRow.holds Try.pinned (OpenSpec.upto fnRunValSpec)

/-- 'laws.FnRunSwap', WHERE WHAT IT READS IS OF BULK AT MOST 1048576: true; the input reads as it did. -/
def fnRunSwapUptoRow : OpenClaim := { program := "ytpcmhkcahajdgaa", sum := "747a54519962df6ff98babc0dee252b219ec2eb38f3c1b215fe9760276086c8c", func := "loop.example/cloison/laws.FnRunSwap", spec := "fnRunSwap", unfollowed := true, recurses := true, apart := false, narrowed := true }
def FnRunSwapUptoSaid : Prop := fnRunSwapUptoRow.holds Try.pinned (OpenSpec.upto fnRunSwapSpec)

/-- 'laws.FnExactTypeKnows', WHERE WHAT IT READS IS OF BULK AT MOST 1048576: true; the input reads as it did. -/
def fnExactTypeKnowsUptoRow : OpenClaim := { program := "ytpcmhkcahajdgaa", sum := "747a54519962df6ff98babc0dee252b219ec2eb38f3c1b215fe9760276086c8c", func := "loop.example/cloison/laws.FnExactTypeKnows", spec := "fnExactTypeKnows", unfollowed := true, recurses := true, loops := true, apart := false, narrowed := true }
def FnExactTypeKnowsUptoSaid : Prop := fnExactTypeKnowsUptoRow.holds Try.pinned (OpenSpec.upto fnExactTypeKnowsSpec)

/-- 'laws.FnExactTypeTrusts', WHERE WHAT IT READS IS OF BULK AT MOST 1048576: true; the input reads as it did. -/
def fnExactTypeTrustsUptoRow : OpenClaim := { program := "ytpcmhkcahajdgaa", sum := "747a54519962df6ff98babc0dee252b219ec2eb38f3c1b215fe9760276086c8c", func := "loop.example/cloison/laws.FnExactTypeTrusts", spec := "fnExactTypeTrusts", unfollowed := true, recurses := true, loops := true, apart := false, narrowed := true }
def FnExactTypeTrustsUptoSaid : Prop := fnExactTypeTrustsUptoRow.holds Try.pinned (OpenSpec.upto fnExactTypeTrustsSpec)

/-- 'laws.FnExactRunOf', WHERE WHAT IT READS IS OF BULK AT MOST 1048576: true; the input reads as it did. -/
def fnExactRunOfUptoRow : OpenClaim := { program := "ytpcmhkcahajdgaa", sum := "747a54519962df6ff98babc0dee252b219ec2eb38f3c1b215fe9760276086c8c", func := "loop.example/cloison/laws.FnExactRunOf", spec := "fnExactRunOf", unfollowed := true, recurses := true, loops := true, apart := false, narrowed := true }
def FnExactRunOfUptoSaid : Prop := fnExactRunOfUptoRow.holds Try.pinned (OpenSpec.upto fnExactRunOfSpec)

end Rows
end Go.Proofs.Ytpcmhkcahajdgaa
