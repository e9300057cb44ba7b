/-
  NARROWER THAN 'FOR EVERY INPUT', by the rows' own cells (each row's printed sentence says how): FnExactProgOk: loops · FnExactProgSize: loops · FnExactProgAt: loops.
  DERIVED. THE GIVEN ROWS OF THIS SEAT. 6 by the template 'for every input the law returns true; each argument reads behind the call as it read before'; 0 by the template 'total and deterministic' (their statements: YtegnakcdkdfkdaaTotals.lean).
  GIVEN WITH THE SEED: the statements are not yours to turn. If you find one false, say at which input.
  Laid BY PROGRAM, IN A SANDBOX (cutbox-rows.mjs): the forced cells as the released guide's own fill.sh prints them over the translation a4d8174b19a41c78… (all of the seat's roots in one cut). By AI agents, Wed Nov 11 2026. No macro, syntax, notation, axiom, sorry.
-/
import Derived.Test.YtegnakcdkdfkdaaChecked
import GoSem.Claim
import GoSem.ClaimJoined
import GoSem.ClaimMapViews
import Derived.JoinedTies
import Derived.KernelRfl
namespace Go.Proofs.Ytegnakcdkdfkdaa
/- THE CELL 'sum', in the pinned program and in every row, IS THE sha256 OF THE DUMP (.gsa) THAT YtegnakcdkdfkdaaProg.lean LOADS. Nothing in Lean hashes anything: it is a label: what it is worth is what the hold of that sum in a sandbox is worth. -/
noncomputable def Try.pinned : Pinned := { name := "ytegnakcdkdfkdaa", sum := "a4d8174b19a41c789c0ff102462d5e2de2390f3849878a0cda61eb5af2421925", checked := Try.checked }
namespace Rows
def none {H : Type} : Left H := { results := [], args := [] }

/-- 'laws.FnProgLess': WHATEVER THE INPUT: true; the input reads as it did. -/
def fnProgLessSpec : ChangeSpec := { name := "fnProgLess", fn := fun _ => fun
  | [d1, d2] => { results := [.lit (.bool true)], args := [d1, d2] }
  | _ => none }
def fnProgLessRow : OpenClaim := { program := "ytegnakcdkdfkdaa", sum := "a4d8174b19a41c789c0ff102462d5e2de2390f3849878a0cda61eb5af2421925", func := "loop.example/cloison/laws.FnProgLess", spec := "fnProgLess", unfollowed := true, recurses := true, apart := false }
def FnProgLessSaid : Prop := fnProgLessRow.holds Try.pinned (OpenSpec.ofChange fnProgLessSpec)

/-- ITS FALSE NEIGHBOUR: 'it returns false'. Refute it at one input. -/
def fnProgLessWrong : ChangeSpec := { name := "fnProgLess", fn := fun _ => fun
  | [d1, d2] => { results := [.lit (.bool false)], args := [d1, d2] }
  | _ => none }
def FnProgLessWrongFalsely : Prop := fnProgLessRow.holds Try.pinned (OpenSpec.ofChange fnProgLessWrong)

/-- 'laws.FnProgSize': WHATEVER THE INPUT: true; the input reads as it did. -/
def fnProgSizeSpec : ChangeSpec := { name := "fnProgSize", fn := fun _ => fun
  | [d] => { results := [.lit (.bool true)], args := [d] }
  | _ => none }
def fnProgSizeRow : OpenClaim := { program := "ytegnakcdkdfkdaa", sum := "a4d8174b19a41c789c0ff102462d5e2de2390f3849878a0cda61eb5af2421925", func := "loop.example/cloison/laws.FnProgSize", spec := "fnProgSize", unfollowed := true, recurses := true, apart := false }
def FnProgSizeSaid : Prop := fnProgSizeRow.holds Try.pinned (OpenSpec.ofChange fnProgSizeSpec)

/-- ITS FALSE NEIGHBOUR: 'it returns false'. Refute it at one input. -/
def fnProgSizeWrong : ChangeSpec := { name := "fnProgSize", fn := fun _ => fun
  | [d] => { results := [.lit (.bool false)], args := [d] }
  | _ => none }
def FnProgSizeWrongFalsely : Prop := fnProgSizeRow.holds Try.pinned (OpenSpec.ofChange fnProgSizeWrong)

/-- 'laws.FnProgAt': WHATEVER THE INPUT: true; the input reads as it did. -/
def fnProgAtSpec : ChangeSpec := { name := "fnProgAt", fn := fun _ => fun
  | [d] => { results := [.lit (.bool true)], args := [d] }
  | _ => none }
def fnProgAtRow : OpenClaim := { program := "ytegnakcdkdfkdaa", sum := "a4d8174b19a41c789c0ff102462d5e2de2390f3849878a0cda61eb5af2421925", func := "loop.example/cloison/laws.FnProgAt", spec := "fnProgAt", unfollowed := true, recurses := true, apart := false }
def FnProgAtSaid : Prop := fnProgAtRow.holds Try.pinned (OpenSpec.ofChange fnProgAtSpec)

/-- ITS FALSE NEIGHBOUR: 'it returns false'. Refute it at one input. -/
def fnProgAtWrong : ChangeSpec := { name := "fnProgAt", fn := fun _ => fun
  | [d] => { results := [.lit (.bool false)], args := [d] }
  | _ => none }
def FnProgAtWrongFalsely : Prop := fnProgAtRow.holds Try.pinned (OpenSpec.ofChange fnProgAtWrong)

/-- 'laws.FnExactProgOk': WHATEVER THE INPUT: true; the input reads as it did. -/
def fnExactProgOkSpec : ChangeSpec := { name := "fnExactProgOk", fn := fun _ => fun
  | [d] => { results := [.lit (.bool true)], args := [d] }
  | _ => none }
def fnExactProgOkRow : OpenClaim := { program := "ytegnakcdkdfkdaa", sum := "a4d8174b19a41c789c0ff102462d5e2de2390f3849878a0cda61eb5af2421925", func := "loop.example/cloison/laws.FnExactProgOk", spec := "fnExactProgOk", unfollowed := true, recurses := true, loops := true, apart := false }
def FnExactProgOkSaid : Prop := fnExactProgOkRow.holds Try.pinned (OpenSpec.ofChange fnExactProgOkSpec)

/-- ITS FALSE NEIGHBOUR: 'it returns false'. Refute it at one input. -/
def fnExactProgOkWrong : ChangeSpec := { name := "fnExactProgOk", fn := fun _ => fun
  | [d] => { results := [.lit (.bool false)], args := [d] }
  | _ => none }
def FnExactProgOkWrongFalsely : Prop := fnExactProgOkRow.holds Try.pinned (OpenSpec.ofChange fnExactProgOkWrong)

/-- 'laws.FnExactProgSize': WHATEVER THE INPUT: true; the input reads as it did. -/
def fnExactProgSizeSpec : ChangeSpec := { name := "fnExactProgSize", fn := fun _ => fun
  | [d] => { results := [.lit (.bool true)], args := [d] }
  | _ => none }
def fnExactProgSizeRow : OpenClaim := { program := "ytegnakcdkdfkdaa", sum := "a4d8174b19a41c789c0ff102462d5e2de2390f3849878a0cda61eb5af2421925", func := "loop.example/cloison/laws.FnExactProgSize", spec := "fnExactProgSize", unfollowed := true, recurses := true, loops := true, apart := false }
def FnExactProgSizeSaid : Prop := fnExactProgSizeRow.holds Try.pinned (OpenSpec.ofChange fnExactProgSizeSpec)

/-- ITS FALSE NEIGHBOUR: 'it returns false'. Refute it at one input. -/
def fnExactProgSizeWrong : ChangeSpec := { name := "fnExactProgSize", fn := fun _ => fun
  | [d] => { results := [.lit (.bool false)], args := [d] }
  | _ => none }
def FnExactProgSizeWrongFalsely : Prop := fnExactProgSizeRow.holds Try.pinned (OpenSpec.ofChange fnExactProgSizeWrong)

/-- 'laws.FnExactProgAt': WHATEVER THE INPUT: true; the input reads as it did. -/
def fnExactProgAtSpec : ChangeSpec := { name := "fnExactProgAt", fn := fun _ => fun
  | [d1, d2] => { results := [.lit (.bool true)], args := [d1, d2] }
  | _ => none }
def fnExactProgAtRow : OpenClaim := { program := "ytegnakcdkdfkdaa", sum := "a4d8174b19a41c789c0ff102462d5e2de2390f3849878a0cda61eb5af2421925", func := "loop.example/cloison/laws.FnExactProgAt", spec := "fnExactProgAt", unfollowed := true, recurses := true, loops := true, apart := false }
def FnExactProgAtSaid : Prop := fnExactProgAtRow.holds Try.pinned (OpenSpec.ofChange fnExactProgAtSpec)

/-- ITS FALSE NEIGHBOUR: 'it returns false'. Refute it at one input. -/
def fnExactProgAtWrong : ChangeSpec := { name := "fnExactProgAt", fn := fun _ => fun
  | [d1, d2] => { results := [.lit (.bool false)], args := [d1, d2] }
  | _ => none }
def FnExactProgAtWrongFalsely : Prop := fnExactProgAtRow.holds Try.pinned (OpenSpec.ofChange fnExactProgAtWrong)

/- THE SECOND FORM. 'bulk': how many values and letters a reading holds, each counted each time it is reached (what is shared counts as often as it is met; a slice's spare places count too). A statement '..UptoSaid' is the law's where the arguments, and the package variables that the reading takes, are together of bulk at most 1048576: NARROWER than '..Said'. Prove '..Said' where nothing that the law and all that it calls make is longer than what came in: it says more and counts as full. Else prove '..UptoSaid'. A law counts once. -/
mutual
def uptoBulk {H : Type} : DataW H → Nat
  | .lit (.string bytes) => bytes.length + 1
  | .lit _ => 1
  | .nil => 1
  | .ptr d => uptoBulk d + 1
  | .slice elems spare => uptoBulkAll elems + uptoBulkAll spare + 1
  | .agg parts => uptoBulkAll parts + 1
  | .iface _ d => uptoBulk d + 1
  | .map entries => uptoBulkEntries entries + 1
  | .held _ => 1
def uptoBulkAll {H : Type} : List (DataW H) → Nat
  | [] => 0
  | d :: r => uptoBulk d + uptoBulkAll r
def uptoBulkEntries {H : Type} : List (Lit × DataW H) → Nat
  | [] => 0
  | x :: r => uptoBulkEntry x + uptoBulkEntries r
def uptoBulkEntry {H : Type} : Lit × DataW H → Nat
  | (.string bytes, d) => bytes.length + uptoBulk d + 1
  | (_, d) => uptoBulk d + 1
 end
def uptoSmall : (H : Type) → List (DataW H) → Bool := fun _ ds => decide (uptoBulkAll ds ≤ 1048576)
def OpenSpec.upto (s : _root_.Go.ChangeSpec) : _root_.Go.OpenSpec := { _root_.Go.OpenSpec.ofChange s with cond := some uptoSmall }

/-- 'laws.FnProgLess', WHERE WHAT IT READS IS OF BULK AT MOST 1048576: true; the input reads as it did. -/
def fnProgLessUptoRow : OpenClaim := { program := "ytegnakcdkdfkdaa", sum := "a4d8174b19a41c789c0ff102462d5e2de2390f3849878a0cda61eb5af2421925", func := "loop.example/cloison/laws.FnProgLess", spec := "fnProgLess", unfollowed := true, recurses := true, apart := false, narrowed := true }
def FnProgLessUptoSaid : Prop := fnProgLessUptoRow.holds Try.pinned (OpenSpec.upto fnProgLessSpec)

/-- 'laws.FnProgSize', WHERE WHAT IT READS IS OF BULK AT MOST 1048576: true; the input reads as it did. -/
def fnProgSizeUptoRow : OpenClaim := { program := "ytegnakcdkdfkdaa", sum := "a4d8174b19a41c789c0ff102462d5e2de2390f3849878a0cda61eb5af2421925", func := "loop.example/cloison/laws.FnProgSize", spec := "fnProgSize", unfollowed := true, recurses := true, apart := false, narrowed := true }
def FnProgSizeUptoSaid : Prop := fnProgSizeUptoRow.holds Try.pinned (OpenSpec.upto fnProgSizeSpec)

/-- 'laws.FnProgAt', WHERE WHAT IT READS IS OF BULK AT MOST 1048576: true; the input reads as it did. -/
def fnProgAtUptoRow : OpenClaim := { program := "ytegnakcdkdfkdaa", sum := "a4d8174b19a41c789c0ff102462d5e2de2390f3849878a0cda61eb5af2421925", func := "loop.example/cloison/laws.FnProgAt", spec := "fnProgAt", unfollowed := true, recurses := true, apart := false, narrowed := true }
def FnProgAtUptoSaid : Prop := fnProgAtUptoRow.holds Try.pinned (OpenSpec.upto fnProgAtSpec)

/-- 'laws.FnExactProgOk', WHERE WHAT IT READS IS OF BULK AT MOST 1048576: true; the input reads as it did. -/
def fnExactProgOkUptoRow : OpenClaim := { program := "ytegnakcdkdfkdaa", sum := "a4d8174b19a41c789c0ff102462d5e2de2390f3849878a0cda61eb5af2421925", func := "loop.example/cloison/laws.FnExactProgOk", spec := "fnExactProgOk", unfollowed := true, recurses := true, loops := true, apart := false, narrowed := true }
def FnExactProgOkUptoSaid : Prop := fnExactProgOkUptoRow.holds Try.pinned (OpenSpec.upto fnExactProgOkSpec)

/-- 'laws.FnExactProgSize', WHERE WHAT IT READS IS OF BULK AT MOST 1048576: true; the input reads as it did. -/
def fnExactProgSizeUptoRow : OpenClaim := { program := "ytegnakcdkdfkdaa", sum := "a4d8174b19a41c789c0ff102462d5e2de2390f3849878a0cda61eb5af2421925", func := "loop.example/cloison/laws.FnExactProgSize", spec := "fnExactProgSize", unfollowed := true, recurses := true, loops := true, apart := false, narrowed := true }
def FnExactProgSizeUptoSaid : Prop := fnExactProgSizeUptoRow.holds Try.pinned (OpenSpec.upto fnExactProgSizeSpec)

/-- 'laws.FnExactProgAt', WHERE WHAT IT READS IS OF BULK AT MOST 1048576: true; the input reads as it did. -/
def fnExactProgAtUptoRow : OpenClaim := { program := "ytegnakcdkdfkdaa", sum := "a4d8174b19a41c789c0ff102462d5e2de2390f3849878a0cda61eb5af2421925", func := "loop.example/cloison/laws.FnExactProgAt", spec := "fnExactProgAt", unfollowed := true, recurses := true, loops := true, apart := false, narrowed := true }
def FnExactProgAtUptoSaid : Prop := fnExactProgAtUptoRow.holds Try.pinned (OpenSpec.upto fnExactProgAtSpec)

end Rows
end Go.Proofs.Ytegnakcdkdfkdaa
