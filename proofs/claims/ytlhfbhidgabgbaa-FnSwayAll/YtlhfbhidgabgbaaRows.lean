/-
  NARROWER THAN 'FOR EVERY INPUT', by the rows' own cells (each row's printed sentence says how): FnExactLeakOf: loops · FnExactSwayOf: loops.
  DERIVED. THE GIVEN ROWS OF THIS SEAT. 9 by the template 'for every input the law returns true; each argument reads behind the call as it read before'; 0 by the template 'total and deterministic' (their statements: YtlhfbhidgabgbaaTotals.lean).
  GIVEN WITH THE SEED: the statements are not yours to turn. If you find one false, say at which input.
  Laid BY PROGRAM, IN A SANDBOX (cutbox-rows.mjs): the forced cells as the released guide's own fill.sh prints them over the translation fb4ea24b0e1b7955… (all of the seat's roots in one cut). By AI agents, Wed Nov 11 2026. No macro, syntax, notation, axiom, sorry.
-/
import Derived.Test.YtlhfbhidgabgbaaChecked
import GoSem.Claim
import GoSem.ClaimJoined
import GoSem.ClaimMapViews
import Derived.JoinedTies
import Derived.KernelRfl
namespace Go.Proofs.Ytlhfbhidgabgbaa
/- THE CELL 'sum', in the pinned program and in every row, IS THE sha256 OF THE DUMP (.gsa) THAT YtlhfbhidgabgbaaProg.lean LOADS. Nothing in Lean hashes anything: it is a label: what it is worth is what the hold of that sum in a sandbox is worth. -/
noncomputable def Try.pinned : Pinned := { name := "ytlhfbhidgabgbaa", sum := "fb4ea24b0e1b79550cb4719e70aa4c4b2ac45d6eed8b9f31e271edbf61a2fcc4", checked := Try.checked }
namespace Rows
def none {H : Type} : Left H := { results := [], args := [] }

/-- 'laws.FnLeakOf': WHATEVER THE INPUT: true; the input reads as it did. -/
def fnLeakOfSpec : ChangeSpec := { name := "fnLeakOf", fn := fun _ => fun
  | [d] => { results := [.lit (.bool true)], args := [d] }
  | _ => none }
def fnLeakOfRow : OpenClaim := { program := "ytlhfbhidgabgbaa", sum := "fb4ea24b0e1b79550cb4719e70aa4c4b2ac45d6eed8b9f31e271edbf61a2fcc4", func := "loop.example/cloison/laws.FnLeakOf", spec := "fnLeakOf", unfollowed := true, recurses := true, apart := false }
def FnLeakOfSaid : Prop := fnLeakOfRow.holds Try.pinned (OpenSpec.ofChange fnLeakOfSpec)

/-- ITS FALSE NEIGHBOUR: 'it returns false'. Refute it at one input. -/
def fnLeakOfWrong : ChangeSpec := { name := "fnLeakOf", fn := fun _ => fun
  | [d] => { results := [.lit (.bool false)], args := [d] }
  | _ => none }
def FnLeakOfWrongFalsely : Prop := fnLeakOfRow.holds Try.pinned (OpenSpec.ofChange fnLeakOfWrong)

/-- 'laws.FnLeakAll': WHATEVER THE INPUT: true; the input reads as it did. -/
def fnLeakAllSpec : ChangeSpec := { name := "fnLeakAll", fn := fun _ => fun
  | [d1, d2] => { results := [.lit (.bool true)], args := [d1, d2] }
  | _ => none }
def fnLeakAllRow : OpenClaim := { program := "ytlhfbhidgabgbaa", sum := "fb4ea24b0e1b79550cb4719e70aa4c4b2ac45d6eed8b9f31e271edbf61a2fcc4", func := "loop.example/cloison/laws.FnLeakAll", spec := "fnLeakAll", unfollowed := true, recurses := true, apart := false }
def FnLeakAllSaid : Prop := fnLeakAllRow.holds Try.pinned (OpenSpec.ofChange fnLeakAllSpec)

/-- ITS FALSE NEIGHBOUR: 'it returns false'. Refute it at one input. -/
def fnLeakAllWrong : ChangeSpec := { name := "fnLeakAll", fn := fun _ => fun
  | [d1, d2] => { results := [.lit (.bool false)], args := [d1, d2] }
  | _ => none }
def FnLeakAllWrongFalsely : Prop := fnLeakAllRow.holds Try.pinned (OpenSpec.ofChange fnLeakAllWrong)

/-- 'laws.FnLeakTold': WHATEVER THE INPUT: true; the input reads as it did. -/
def fnLeakToldSpec : ChangeSpec := { name := "fnLeakTold", fn := fun _ => fun
  | [d] => { results := [.lit (.bool true)], args := [d] }
  | _ => none }
def fnLeakToldRow : OpenClaim := { program := "ytlhfbhidgabgbaa", sum := "fb4ea24b0e1b79550cb4719e70aa4c4b2ac45d6eed8b9f31e271edbf61a2fcc4", func := "loop.example/cloison/laws.FnLeakTold", spec := "fnLeakTold", unfollowed := true, recurses := true, apart := false }
def FnLeakToldSaid : Prop := fnLeakToldRow.holds Try.pinned (OpenSpec.ofChange fnLeakToldSpec)

/-- ITS FALSE NEIGHBOUR: 'it returns false'. Refute it at one input. -/
def fnLeakToldWrong : ChangeSpec := { name := "fnLeakTold", fn := fun _ => fun
  | [d] => { results := [.lit (.bool false)], args := [d] }
  | _ => none }
def FnLeakToldWrongFalsely : Prop := fnLeakToldRow.holds Try.pinned (OpenSpec.ofChange fnLeakToldWrong)

/-- 'laws.FnSwayOf': WHATEVER THE INPUT: true; the input reads as it did. -/
def fnSwayOfSpec : ChangeSpec := { name := "fnSwayOf", fn := fun _ => fun
  | [d] => { results := [.lit (.bool true)], args := [d] }
  | _ => none }
def fnSwayOfRow : OpenClaim := { program := "ytlhfbhidgabgbaa", sum := "fb4ea24b0e1b79550cb4719e70aa4c4b2ac45d6eed8b9f31e271edbf61a2fcc4", func := "loop.example/cloison/laws.FnSwayOf", spec := "fnSwayOf", unfollowed := true, recurses := true, apart := false }
def FnSwayOfSaid : Prop := fnSwayOfRow.holds Try.pinned (OpenSpec.ofChange fnSwayOfSpec)

/-- ITS FALSE NEIGHBOUR: 'it returns false'. Refute it at one input. -/
def fnSwayOfWrong : ChangeSpec := { name := "fnSwayOf", fn := fun _ => fun
  | [d] => { results := [.lit (.bool false)], args := [d] }
  | _ => none }
def FnSwayOfWrongFalsely : Prop := fnSwayOfRow.holds Try.pinned (OpenSpec.ofChange fnSwayOfWrong)

/-- 'laws.FnSwayAll': WHATEVER THE INPUT: true; the input reads as it did. -/
def fnSwayAllSpec : ChangeSpec := { name := "fnSwayAll", fn := fun _ => fun
  | [d1, d2] => { results := [.lit (.bool true)], args := [d1, d2] }
  | _ => none }
def fnSwayAllRow : OpenClaim := { program := "ytlhfbhidgabgbaa", sum := "fb4ea24b0e1b79550cb4719e70aa4c4b2ac45d6eed8b9f31e271edbf61a2fcc4", func := "loop.example/cloison/laws.FnSwayAll", spec := "fnSwayAll", unfollowed := true, recurses := true, apart := false }
def FnSwayAllSaid : Prop := fnSwayAllRow.holds Try.pinned (OpenSpec.ofChange fnSwayAllSpec)

/-- ITS FALSE NEIGHBOUR: 'it returns false'. Refute it at one input. -/
def fnSwayAllWrong : ChangeSpec := { name := "fnSwayAll", fn := fun _ => fun
  | [d1, d2] => { results := [.lit (.bool false)], args := [d1, d2] }
  | _ => none }
def FnSwayAllWrongFalsely : Prop := fnSwayAllRow.holds Try.pinned (OpenSpec.ofChange fnSwayAllWrong)

/-- 'laws.FnSwayTrusts': WHATEVER THE INPUT: true; the input reads as it did. -/
def fnSwayTrustsSpec : ChangeSpec := { name := "fnSwayTrusts", fn := fun _ => fun
  | [d] => { results := [.lit (.bool true)], args := [d] }
  | _ => none }
def fnSwayTrustsRow : OpenClaim := { program := "ytlhfbhidgabgbaa", sum := "fb4ea24b0e1b79550cb4719e70aa4c4b2ac45d6eed8b9f31e271edbf61a2fcc4", func := "loop.example/cloison/laws.FnSwayTrusts", spec := "fnSwayTrusts", unfollowed := true, recurses := true, apart := false }
def FnSwayTrustsSaid : Prop := fnSwayTrustsRow.holds Try.pinned (OpenSpec.ofChange fnSwayTrustsSpec)

/-- ITS FALSE NEIGHBOUR: 'it returns false'. Refute it at one input. -/
def fnSwayTrustsWrong : ChangeSpec := { name := "fnSwayTrusts", fn := fun _ => fun
  | [d] => { results := [.lit (.bool false)], args := [d] }
  | _ => none }
def FnSwayTrustsWrongFalsely : Prop := fnSwayTrustsRow.holds Try.pinned (OpenSpec.ofChange fnSwayTrustsWrong)

/-- 'laws.FnLeakKnows': WHATEVER THE INPUT: true; the input reads as it did. -/
def fnLeakKnowsSpec : ChangeSpec := { name := "fnLeakKnows", fn := fun _ => fun
  | [d] => { results := [.lit (.bool true)], args := [d] }
  | _ => none }
def fnLeakKnowsRow : OpenClaim := { program := "ytlhfbhidgabgbaa", sum := "fb4ea24b0e1b79550cb4719e70aa4c4b2ac45d6eed8b9f31e271edbf61a2fcc4", func := "loop.example/cloison/laws.FnLeakKnows", spec := "fnLeakKnows", unfollowed := true, recurses := true, apart := false }
def FnLeakKnowsSaid : Prop := fnLeakKnowsRow.holds Try.pinned (OpenSpec.ofChange fnLeakKnowsSpec)

/-- ITS FALSE NEIGHBOUR: 'it returns false'. Refute it at one input. -/
def fnLeakKnowsWrong : ChangeSpec := { name := "fnLeakKnows", fn := fun _ => fun
  | [d] => { results := [.lit (.bool false)], args := [d] }
  | _ => none }
def FnLeakKnowsWrongFalsely : Prop := fnLeakKnowsRow.holds Try.pinned (OpenSpec.ofChange fnLeakKnowsWrong)

/-- 'laws.FnExactLeakOf': WHATEVER THE INPUT: true; the input reads as it did. -/
def fnExactLeakOfSpec : ChangeSpec := { name := "fnExactLeakOf", fn := fun _ => fun
  | [d1, d2] => { results := [.lit (.bool true)], args := [d1, d2] }
  | _ => none }
def fnExactLeakOfRow : OpenClaim := { program := "ytlhfbhidgabgbaa", sum := "fb4ea24b0e1b79550cb4719e70aa4c4b2ac45d6eed8b9f31e271edbf61a2fcc4", func := "loop.example/cloison/laws.FnExactLeakOf", spec := "fnExactLeakOf", unfollowed := true, recurses := true, loops := true, apart := false }
def FnExactLeakOfSaid : Prop := fnExactLeakOfRow.holds Try.pinned (OpenSpec.ofChange fnExactLeakOfSpec)

/-- ITS FALSE NEIGHBOUR: 'it returns false'. Refute it at one input. -/
def fnExactLeakOfWrong : ChangeSpec := { name := "fnExactLeakOf", fn := fun _ => fun
  | [d1, d2] => { results := [.lit (.bool false)], args := [d1, d2] }
  | _ => none }
def FnExactLeakOfWrongFalsely : Prop := fnExactLeakOfRow.holds Try.pinned (OpenSpec.ofChange fnExactLeakOfWrong)

/-- 'laws.FnExactSwayOf': WHATEVER THE INPUT: true; the input reads as it did. -/
def fnExactSwayOfSpec : ChangeSpec := { name := "fnExactSwayOf", fn := fun _ => fun
  | [d1, d2] => { results := [.lit (.bool true)], args := [d1, d2] }
  | _ => none }
def fnExactSwayOfRow : OpenClaim := { program := "ytlhfbhidgabgbaa", sum := "fb4ea24b0e1b79550cb4719e70aa4c4b2ac45d6eed8b9f31e271edbf61a2fcc4", func := "loop.example/cloison/laws.FnExactSwayOf", spec := "fnExactSwayOf", unfollowed := true, recurses := true, loops := true, apart := false }
def FnExactSwayOfSaid : Prop := fnExactSwayOfRow.holds Try.pinned (OpenSpec.ofChange fnExactSwayOfSpec)

/-- ITS FALSE NEIGHBOUR: 'it returns false'. Refute it at one input. -/
def fnExactSwayOfWrong : ChangeSpec := { name := "fnExactSwayOf", fn := fun _ => fun
  | [d1, d2] => { results := [.lit (.bool false)], args := [d1, d2] }
  | _ => none }
def FnExactSwayOfWrongFalsely : Prop := fnExactSwayOfRow.holds Try.pinned (OpenSpec.ofChange fnExactSwayOfWrong)

/- THE SECOND FORM. 'bulk': how many values and letters a reading holds, each counted each time it is reached (what is shared counts as often as it is met; a slice's spare places count too). A statement '..UptoSaid' is the law's where the arguments, and the package variables that the reading takes, are together of bulk at most 1048576: NARROWER than '..Said'. Prove '..Said' where nothing that the law and all that it calls make is longer than what came in: it says more and counts as full. Else prove '..UptoSaid'. A law counts once. -/
mutual
def uptoBulk {H : Type} : DataW H → Nat
  | .lit (.string bytes) => bytes.length + 1
  | .lit _ => 1
  | .nil => 1
  | .ptr d => uptoBulk d + 1
  | .slice elems spare => uptoBulkAll elems + uptoBulkAll spare + 1
  | .agg parts => uptoBulkAll parts + 1
  | .iface _ d => uptoBulk d + 1
  | .map entries => uptoBulkEntries entries + 1
  | .held _ => 1
def uptoBulkAll {H : Type} : List (DataW H) → Nat
  | [] => 0
  | d :: r => uptoBulk d + uptoBulkAll r
def uptoBulkEntries {H : Type} : List (Lit × DataW H) → Nat
  | [] => 0
  | x :: r => uptoBulkEntry x + uptoBulkEntries r
def uptoBulkEntry {H : Type} : Lit × DataW H → Nat
  | (.string bytes, d) => bytes.length + uptoBulk d + 1
  | (_, d) => uptoBulk d + 1
 end
def uptoSmall : (H : Type) → List (DataW H) → Bool := fun _ ds => decide (uptoBulkAll ds ≤ 1048576)
def OpenSpec.upto (s : _root_.Go.ChangeSpec) : _root_.Go.OpenSpec := { _root_.Go.OpenSpec.ofChange s with cond := some uptoSmall }

/-- 'laws.FnLeakOf', WHERE WHAT IT READS IS OF BULK AT MOST 1048576: true; the input reads as it did. -/
def fnLeakOfUptoRow : OpenClaim := { program := "ytlhfbhidgabgbaa", sum := "fb4ea24b0e1b79550cb4719e70aa4c4b2ac45d6eed8b9f31e271edbf61a2fcc4", func := "loop.example/cloison/laws.FnLeakOf", spec := "fnLeakOf", unfollowed := true, recurses := true, apart := false, narrowed := true }
def FnLeakOfUptoSaid : Prop := fnLeakOfUptoRow.holds Try.pinned (OpenSpec.upto fnLeakOfSpec)

/-- 'laws.FnLeakAll', WHERE WHAT IT READS IS OF BULK AT MOST 1048576: true; the input reads as it did. -/
def fnLeakAllUptoRow : OpenClaim := { program := "ytlhfbhidgabgbaa", sum := "fb4ea24b0e1b79550cb4719e70aa4c4b2ac45d6eed8b9f31e271edbf61a2fcc4", func := "loop.example/cloison/laws.FnLeakAll", spec := "fnLeakAll", unfollowed := true, recurses := true, apart := false, narrowed := true }
def FnLeakAllUptoSaid : Prop := fnLeakAllUptoRow.holds Try.pinned (OpenSpec.upto fnLeakAllSpec)

/-- 'laws.FnLeakTold', WHERE WHAT IT READS IS OF BULK AT MOST 1048576: true; the input reads as it did. -/
def fnLeakToldUptoRow : OpenClaim := { program := "ytlhfbhidgabgbaa", sum := "fb4ea24b0e1b79550cb4719e70aa4c4b2ac45d6eed8b9f31e271edbf61a2fcc4", func := "loop.example/cloison/laws.FnLeakTold", spec := "fnLeakTold", unfollowed := true, recurses := true, apart := false, narrowed := true }
def FnLeakToldUptoSaid : Prop := fnLeakToldUptoRow.holds Try.pinned (OpenSpec.upto fnLeakToldSpec)

/-- 'laws.FnSwayOf', WHERE WHAT IT READS IS OF BULK AT MOST 1048576: true; the input reads as it did. -/
def fnSwayOfUptoRow : OpenClaim := { program := "ytlhfbhidgabgbaa", sum := "fb4ea24b0e1b79550cb4719e70aa4c4b2ac45d6eed8b9f31e271edbf61a2fcc4", func := "loop.example/cloison/laws.FnSwayOf", spec := "fnSwayOf", unfollowed := true, recurses := true, apart := false, narrowed := true }
def FnSwayOfUptoSaid : Prop := fnSwayOfUptoRow.holds Try.pinned (OpenSpec.upto fnSwayOfSpec)

/-- 'laws.FnSwayAll', WHERE WHAT IT READS IS OF BULK AT MOST 1048576: true; the input reads as it did. -/
def fnSwayAllUptoRow : OpenClaim := { program := "ytlhfbhidgabgbaa", sum := "fb4ea24b0e1b79550cb4719e70aa4c4b2ac45d6eed8b9f31e271edbf61a2fcc4", func := "loop.example/cloison/laws.FnSwayAll", spec := "fnSwayAll", unfollowed := true, recurses := true, apart := false, narrowed := true }
def FnSwayAllUptoSaid : Prop := fnSwayAllUptoRow.holds Try.pinned (OpenSpec.upto fnSwayAllSpec)

/-- 'laws.FnSwayTrusts', WHERE WHAT IT READS IS OF BULK AT MOST 1048576: true; the input reads as it did. -/
def fnSwayTrustsUptoRow : OpenClaim := { program := "ytlhfbhidgabgbaa", sum := "fb4ea24b0e1b79550cb4719e70aa4c4b2ac45d6eed8b9f31e271edbf61a2fcc4", func := "loop.example/cloison/laws.FnSwayTrusts", spec := "fnSwayTrusts", unfollowed := true, recurses := true, apart := false, narrowed := true }
def FnSwayTrustsUptoSaid : Prop := fnSwayTrustsUptoRow.holds Try.pinned (OpenSpec.upto fnSwayTrustsSpec)

/-- 'laws.FnLeakKnows', WHERE WHAT IT READS IS OF BULK AT MOST 1048576: true; the input reads as it did. -/
def fnLeakKnowsUptoRow : OpenClaim := { program := "ytlhfbhidgabgbaa", sum := "fb4ea24b0e1b79550cb4719e70aa4c4b2ac45d6eed8b9f31e271edbf61a2fcc4", func := "loop.example/cloison/laws.FnLeakKnows", spec := "fnLeakKnows", unfollowed := true, recurses := true, apart := false, narrowed := true }
def FnLeakKnowsUptoSaid : Prop := fnLeakKnowsUptoRow.holds Try.pinned (OpenSpec.upto fnLeakKnowsSpec)

/-- 'laws.FnExactLeakOf', WHERE WHAT IT READS IS OF BULK AT MOST 1048576: true; the input reads as it did. -/
def fnExactLeakOfUptoRow : OpenClaim := { program := "ytlhfbhidgabgbaa", sum := "fb4ea24b0e1b79550cb4719e70aa4c4b2ac45d6eed8b9f31e271edbf61a2fcc4", func := "loop.example/cloison/laws.FnExactLeakOf", spec := "fnExactLeakOf", unfollowed := true, recurses := true, loops := true, apart := false, narrowed := true }
def FnExactLeakOfUptoSaid : Prop := fnExactLeakOfUptoRow.holds Try.pinned (OpenSpec.upto fnExactLeakOfSpec)

/-- 'laws.FnExactSwayOf', WHERE WHAT IT READS IS OF BULK AT MOST 1048576: true; the input reads as it did. -/
def fnExactSwayOfUptoRow : OpenClaim := { program := "ytlhfbhidgabgbaa", sum := "fb4ea24b0e1b79550cb4719e70aa4c4b2ac45d6eed8b9f31e271edbf61a2fcc4", func := "loop.example/cloison/laws.FnExactSwayOf", spec := "fnExactSwayOf", unfollowed := true, recurses := true, loops := true, apart := false, narrowed := true }
def FnExactSwayOfUptoSaid : Prop := fnExactSwayOfUptoRow.holds Try.pinned (OpenSpec.upto fnExactSwayOfSpec)

end Rows
end Go.Proofs.Ytlhfbhidgabgbaa
