/-
  NARROWER THAN 'FOR EVERY INPUT', by the rows' own cells (each row's printed sentence says how): FnLeakNone: ifaces, laid · FnSwayNone: ifaces, laid.
  DERIVED. THE GIVEN ROWS OF THIS SEAT. 2 by the template 'for every input the law returns true; each argument reads behind the call as it read before'; 0 by the template 'total and deterministic' (their statements: YthcgdhlemieboaaGreatDoorTotals.lean).
  GIVEN WITH THE SEED: the statements are not yours to turn. If you find one false, say at which input.
  Laid BY PROGRAM, IN A SANDBOX (cutbox-rows.mjs): the forced cells as the released guide's own fill.sh prints them over the translation e5c364ed91cb1082… (all of the seat's roots in one cut). By AI agents, Wed Nov 11 2026. No macro, syntax, notation, axiom, sorry.
-/
import Derived.Test.YthcgdhlemieboaaGreatDoorChecked
import GoSem.Claim
import GoSem.ClaimJoined
import GoSem.ClaimMapViews
import Derived.JoinedTies
import Derived.KernelRfl
namespace Go.Proofs.YthcgdhlemieboaaGreatDoor
/- THE CELL 'sum', in the pinned program and in every row, IS THE sha256 OF THE DUMP (.gsa) THAT YthcgdhlemieboaaGreatDoorProg.lean LOADS. Nothing in Lean hashes anything: it is a label: what it is worth is what the hold of that sum in a sandbox is worth. -/
noncomputable def Tryz.pinned : Pinned := { name := "ythcgdhlemieboaagreatdoor", sum := "e5c364ed91cb1082c1ffbe18f46a0ed08f145a94143b187f5532516863d0ec42", checked := Tryz.checked }
namespace Rows
def none {H : Type} : Left H := { results := [], args := [] }

/- WHAT THE LISTED PACKAGE-LEVEL VARIABLES READ AS WHEN THE CALL BEGINS. Each datum BY PROGRAM (the guide's laid-datum.mjs) off the statement by which the dump's own 'gosem.cut.vars' lays the variable. In a bare row this is a premise. The card (YthcgdhlemieboaaGreatDoorCards.lean) ties it to the program's text. -/
def laid_loop_example_cloison_impl_errNotOk {H : Type} : DataW H := .iface "*errors.errorString" (.ptr (.agg [.lit (.string [110, 111, 32, 112, 114, 111, 103, 114, 97, 109])]))
def laid_loop_example_cloison_impl_errNotFine {H : Type} : DataW H := .iface "*errors.errorString" (.ptr (.agg [.lit (.string [116, 101, 108, 108, 115, 32, 116, 111, 111, 32, 109, 117, 99, 104, 44, 32, 111, 114, 32, 109, 97, 121, 32, 100, 101, 99, 101, 105, 118, 101])]))

/-- 'laws.FnLeakNone': WHATEVER THE INPUT: true; the input reads as it did. -/
def fnLeakNoneSpec : ChangeSpec := { name := "fnLeakNone", vars := ["loop.example/cloison/impl.errNotOk", "loop.example/cloison/impl.errNotFine"], fn := fun _ => fun
  | [d, g1, g2] => { results := [.lit (.bool true)], args := [d], vars := [g1, g2] }
  | _ => none }
def fnLeakNoneRow : OpenClaim := { program := "ythcgdhlemieboaagreatdoor", sum := "e5c364ed91cb1082c1ffbe18f46a0ed08f145a94143b187f5532516863d0ec42", func := "loop.example/cloison/laws.FnLeakNone", spec := "fnLeakNone", unfollowed := true, recurses := true, named := ["loop.example/cloison/impl.errNotOk", "loop.example/cloison/impl.errNotFine"], ifaces := true, apart := false, laid := [("loop.example/cloison/impl.errNotOk", laid_loop_example_cloison_impl_errNotOk), ("loop.example/cloison/impl.errNotFine", laid_loop_example_cloison_impl_errNotFine)] }
def FnLeakNoneSaid : Prop := fnLeakNoneRow.holds Tryz.pinned (OpenSpec.ofChange fnLeakNoneSpec)

/-- ITS FALSE NEIGHBOUR: 'it returns false'. Refute it at one input. -/
def fnLeakNoneWrong : ChangeSpec := { name := "fnLeakNone", vars := ["loop.example/cloison/impl.errNotOk", "loop.example/cloison/impl.errNotFine"], fn := fun _ => fun
  | [d, g1, g2] => { results := [.lit (.bool false)], args := [d], vars := [g1, g2] }
  | _ => none }
def FnLeakNoneWrongFalsely : Prop := fnLeakNoneRow.holds Tryz.pinned (OpenSpec.ofChange fnLeakNoneWrong)

/-- 'laws.FnSwayNone': WHATEVER THE INPUT: true; the input reads as it did. -/
def fnSwayNoneSpec : ChangeSpec := { name := "fnSwayNone", vars := ["loop.example/cloison/impl.errNotOk", "loop.example/cloison/impl.errNotFine"], fn := fun _ => fun
  | [d, g1, g2] => { results := [.lit (.bool true)], args := [d], vars := [g1, g2] }
  | _ => none }
def fnSwayNoneRow : OpenClaim := { program := "ythcgdhlemieboaagreatdoor", sum := "e5c364ed91cb1082c1ffbe18f46a0ed08f145a94143b187f5532516863d0ec42", func := "loop.example/cloison/laws.FnSwayNone", spec := "fnSwayNone", unfollowed := true, recurses := true, named := ["loop.example/cloison/impl.errNotOk", "loop.example/cloison/impl.errNotFine"], ifaces := true, apart := false, laid := [("loop.example/cloison/impl.errNotOk", laid_loop_example_cloison_impl_errNotOk), ("loop.example/cloison/impl.errNotFine", laid_loop_example_cloison_impl_errNotFine)] }
def FnSwayNoneSaid : Prop := fnSwayNoneRow.holds Tryz.pinned (OpenSpec.ofChange fnSwayNoneSpec)

/-- ITS FALSE NEIGHBOUR: 'it returns false'. Refute it at one input. -/
def fnSwayNoneWrong : ChangeSpec := { name := "fnSwayNone", vars := ["loop.example/cloison/impl.errNotOk", "loop.example/cloison/impl.errNotFine"], fn := fun _ => fun
  | [d, g1, g2] => { results := [.lit (.bool false)], args := [d], vars := [g1, g2] }
  | _ => none }
def FnSwayNoneWrongFalsely : Prop := fnSwayNoneRow.holds Tryz.pinned (OpenSpec.ofChange fnSwayNoneWrong)

/- THE SECOND FORM. 'bulk': how many values and letters a reading holds, each counted each time it is reached (what is shared counts as often as it is met; a slice's spare places count too). A statement '..UptoSaid' is the law's where the arguments, and the package variables that the reading takes, are together of bulk at most 1048576: NARROWER than '..Said'. Prove '..Said' where nothing that the law and all that it calls make is longer than what came in: it says more and counts as full. Else prove '..UptoSaid'. A law counts once. -/
mutual
def uptoBulk {H : Type} : DataW H → Nat
  | .lit (.string bytes) => bytes.length + 1
  | .lit _ => 1
  | .nil => 1
  | .ptr d => uptoBulk d + 1
  | .slice elems spare => uptoBulkAll elems + uptoBulkAll spare + 1
  | .agg parts => uptoBulkAll parts + 1
  | .iface _ d => uptoBulk d + 1
  | .map entries => uptoBulkEntries entries + 1
  | .held _ => 1
def uptoBulkAll {H : Type} : List (DataW H) → Nat
  | [] => 0
  | d :: r => uptoBulk d + uptoBulkAll r
def uptoBulkEntries {H : Type} : List (Lit × DataW H) → Nat
  | [] => 0
  | x :: r => uptoBulkEntry x + uptoBulkEntries r
def uptoBulkEntry {H : Type} : Lit × DataW H → Nat
  | (.string bytes, d) => bytes.length + uptoBulk d + 1
  | (_, d) => uptoBulk d + 1
 end
def uptoSmall : (H : Type) → List (DataW H) → Bool := fun _ ds => decide (uptoBulkAll ds ≤ 1048576)
def OpenSpec.upto (s : _root_.Go.ChangeSpec) : _root_.Go.OpenSpec := { _root_.Go.OpenSpec.ofChange s with cond := some uptoSmall }

/-- 'laws.FnLeakNone', WHERE WHAT IT READS IS OF BULK AT MOST 1048576: true; the input reads as it did. -/
def fnLeakNoneUptoRow : OpenClaim := { program := "ythcgdhlemieboaagreatdoor", sum := "e5c364ed91cb1082c1ffbe18f46a0ed08f145a94143b187f5532516863d0ec42", func := "loop.example/cloison/laws.FnLeakNone", spec := "fnLeakNone", unfollowed := true, recurses := true, named := ["loop.example/cloison/impl.errNotOk", "loop.example/cloison/impl.errNotFine"], ifaces := true, apart := false, laid := [("loop.example/cloison/impl.errNotOk", laid_loop_example_cloison_impl_errNotOk), ("loop.example/cloison/impl.errNotFine", laid_loop_example_cloison_impl_errNotFine)], narrowed := true }
def FnLeakNoneUptoSaid : Prop := fnLeakNoneUptoRow.holds Tryz.pinned (OpenSpec.upto fnLeakNoneSpec)

/-- 'laws.FnSwayNone', WHERE WHAT IT READS IS OF BULK AT MOST 1048576: true; the input reads as it did. -/
def fnSwayNoneUptoRow : OpenClaim := { program := "ythcgdhlemieboaagreatdoor", sum := "e5c364ed91cb1082c1ffbe18f46a0ed08f145a94143b187f5532516863d0ec42", func := "loop.example/cloison/laws.FnSwayNone", spec := "fnSwayNone", unfollowed := true, recurses := true, named := ["loop.example/cloison/impl.errNotOk", "loop.example/cloison/impl.errNotFine"], ifaces := true, apart := false, laid := [("loop.example/cloison/impl.errNotOk", laid_loop_example_cloison_impl_errNotOk), ("loop.example/cloison/impl.errNotFine", laid_loop_example_cloison_impl_errNotFine)], narrowed := true }
def FnSwayNoneUptoSaid : Prop := fnSwayNoneUptoRow.holds Tryz.pinned (OpenSpec.upto fnSwayNoneSpec)

end Rows
end Go.Proofs.YthcgdhlemieboaaGreatDoor
