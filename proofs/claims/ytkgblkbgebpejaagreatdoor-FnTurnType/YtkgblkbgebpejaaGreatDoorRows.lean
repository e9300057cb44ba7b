/-
  NARROWER THAN 'FOR EVERY INPUT', by the rows' own cells (each row's printed sentence says how): FnTypeWhy: ifaces, laid · FnTurnType: ifaces, laid · FnExactTypeWhy: loops, ifaces, laid.
  DERIVED. THE GIVEN ROWS OF THIS SEAT. 3 by the template 'for every input the law returns true; each argument reads behind the call as it read before'; 0 by the template 'total and deterministic' (their statements: YtkgblkbgebpejaaGreatDoorTotals.lean).
  GIVEN WITH THE SEED: the statements are not yours to turn. If you find one false, say at which input.
  Laid BY PROGRAM, IN A SANDBOX (cutbox-rows.mjs): the forced cells as the released guide's own fill.sh prints them over the translation 0ba5e7c38c4347a6… (all of the seat's roots in one cut). By AI agents, Wed Nov 11 2026. No macro, syntax, notation, axiom, sorry.
-/
import Derived.Test.YtkgblkbgebpejaaGreatDoorChecked
import GoSem.Claim
import GoSem.ClaimJoined
import GoSem.ClaimMapViews
import Derived.JoinedTies
import Derived.KernelRfl
namespace Go.Proofs.YtkgblkbgebpejaaGreatDoor
/- THE CELL 'sum', in the pinned program and in every row, IS THE sha256 OF THE DUMP (.gsa) THAT YtkgblkbgebpejaaGreatDoorProg.lean LOADS. Nothing in Lean hashes anything: it is a label: what it is worth is what the hold of that sum in a sandbox is worth. -/
noncomputable def Tryz.pinned : Pinned := { name := "ytkgblkbgebpejaagreatdoor", sum := "0ba5e7c38c4347a6e2fac1b790b31878b90a3f6adb522bc248d5d900340fe32b", checked := Tryz.checked }
namespace Rows
def none {H : Type} : Left H := { results := [], args := [] }

/- WHAT THE LISTED PACKAGE-LEVEL VARIABLES READ AS WHEN THE CALL BEGINS. Each datum BY PROGRAM (the guide's laid-datum.mjs) off the statement by which the dump's own 'gosem.cut.vars' lays the variable. In a bare row this is a premise. The card (YtkgblkbgebpejaaGreatDoorCards.lean) ties it to the program's text. -/
def laid_errors_errorType {H : Type} : DataW H := .iface "internal/reflectlite.rtype" (.agg [.ptr (.lit (.string [101, 114, 114, 111, 114]))])
def laid_loop_example_cloison_impl_errNotOk {H : Type} : DataW H := .iface "*errors.errorString" (.ptr (.agg [.lit (.string [110, 111, 32, 112, 114, 111, 103, 114, 97, 109])]))
def laid_loop_example_cloison_impl_errNotFine {H : Type} : DataW H := .iface "*errors.errorString" (.ptr (.agg [.lit (.string [116, 101, 108, 108, 115, 32, 116, 111, 111, 32, 109, 117, 99, 104, 44, 32, 111, 114, 32, 109, 97, 121, 32, 100, 101, 99, 101, 105, 118, 101])]))

/-- 'laws.FnTypeWhy': WHATEVER THE INPUT: true; the input reads as it did. -/
def fnTypeWhySpec : ChangeSpec := { name := "fnTypeWhy", vars := ["loop.example/cloison/impl.errNotFine", "loop.example/cloison/impl.errNotOk"], fn := fun _ => fun
  | [d, g1, g2] => { results := [.lit (.bool true)], args := [d], vars := [g1, g2] }
  | _ => none }
def fnTypeWhyRow : OpenClaim := { program := "ytkgblkbgebpejaagreatdoor", sum := "0ba5e7c38c4347a6e2fac1b790b31878b90a3f6adb522bc248d5d900340fe32b", func := "loop.example/cloison/laws.FnTypeWhy", spec := "fnTypeWhy", inPlace := ["internal/reflectlite.TypeOf", "internal/reflectlite.ValueOf", "(internal/reflectlite.Value).Type", "(internal/reflectlite.Value).IsNil", "(internal/reflectlite.Value).Elem", "(internal/reflectlite.Value).Set"], unfollowed := true, recurses := true, named := ["loop.example/cloison/impl.errNotFine", "loop.example/cloison/impl.errNotOk", "errors.errorType"], ifaces := true, apart := false, laid := [("errors.errorType", laid_errors_errorType), ("loop.example/cloison/impl.errNotOk", laid_loop_example_cloison_impl_errNotOk), ("loop.example/cloison/impl.errNotFine", laid_loop_example_cloison_impl_errNotFine)] }
def FnTypeWhySaid : Prop := fnTypeWhyRow.holds Tryz.pinned (OpenSpec.ofChange fnTypeWhySpec)

/-- ITS FALSE NEIGHBOUR: 'it returns false'. Refute it at one input. -/
def fnTypeWhyWrong : ChangeSpec := { name := "fnTypeWhy", vars := ["loop.example/cloison/impl.errNotFine", "loop.example/cloison/impl.errNotOk"], fn := fun _ => fun
  | [d, g1, g2] => { results := [.lit (.bool false)], args := [d], vars := [g1, g2] }
  | _ => none }
def FnTypeWhyWrongFalsely : Prop := fnTypeWhyRow.holds Tryz.pinned (OpenSpec.ofChange fnTypeWhyWrong)

/-- 'laws.FnTurnType': WHATEVER THE INPUT: true; the input reads as it did. -/
def fnTurnTypeSpec : ChangeSpec := { name := "fnTurnType", vars := ["loop.example/cloison/impl.errNotFine", "loop.example/cloison/impl.errNotOk"], fn := fun _ => fun
  | [d, g1, g2] => { results := [.lit (.bool true)], args := [d], vars := [g1, g2] }
  | _ => none }
def fnTurnTypeRow : OpenClaim := { program := "ytkgblkbgebpejaagreatdoor", sum := "0ba5e7c38c4347a6e2fac1b790b31878b90a3f6adb522bc248d5d900340fe32b", func := "loop.example/cloison/laws.FnTurnType", spec := "fnTurnType", inPlace := ["internal/reflectlite.TypeOf", "internal/reflectlite.ValueOf", "(internal/reflectlite.Value).Type", "(internal/reflectlite.Value).IsNil", "(internal/reflectlite.Value).Elem", "(internal/reflectlite.Value).Set"], unfollowed := true, recurses := true, named := ["loop.example/cloison/impl.errNotFine", "loop.example/cloison/impl.errNotOk", "errors.errorType"], ifaces := true, apart := false, laid := [("errors.errorType", laid_errors_errorType), ("loop.example/cloison/impl.errNotOk", laid_loop_example_cloison_impl_errNotOk), ("loop.example/cloison/impl.errNotFine", laid_loop_example_cloison_impl_errNotFine)] }
def FnTurnTypeSaid : Prop := fnTurnTypeRow.holds Tryz.pinned (OpenSpec.ofChange fnTurnTypeSpec)

/-- ITS FALSE NEIGHBOUR: 'it returns false'. Refute it at one input. -/
def fnTurnTypeWrong : ChangeSpec := { name := "fnTurnType", vars := ["loop.example/cloison/impl.errNotFine", "loop.example/cloison/impl.errNotOk"], fn := fun _ => fun
  | [d, g1, g2] => { results := [.lit (.bool false)], args := [d], vars := [g1, g2] }
  | _ => none }
def FnTurnTypeWrongFalsely : Prop := fnTurnTypeRow.holds Tryz.pinned (OpenSpec.ofChange fnTurnTypeWrong)

/-- 'laws.FnExactTypeWhy': WHATEVER THE INPUT: true; the input reads as it did. -/
def fnExactTypeWhySpec : ChangeSpec := { name := "fnExactTypeWhy", vars := ["loop.example/cloison/impl.errNotFine", "loop.example/cloison/impl.errNotOk"], fn := fun _ => fun
  | [d, g1, g2] => { results := [.lit (.bool true)], args := [d], vars := [g1, g2] }
  | _ => none }
def fnExactTypeWhyRow : OpenClaim := { program := "ytkgblkbgebpejaagreatdoor", sum := "0ba5e7c38c4347a6e2fac1b790b31878b90a3f6adb522bc248d5d900340fe32b", func := "loop.example/cloison/laws.FnExactTypeWhy", spec := "fnExactTypeWhy", inPlace := ["internal/reflectlite.TypeOf", "internal/reflectlite.ValueOf", "(internal/reflectlite.Value).Type", "(internal/reflectlite.Value).IsNil", "(internal/reflectlite.Value).Elem", "(internal/reflectlite.Value).Set"], unfollowed := true, recurses := true, named := ["loop.example/cloison/impl.errNotFine", "loop.example/cloison/impl.errNotOk", "errors.errorType"], ifaces := true, loops := true, apart := false, laid := [("errors.errorType", laid_errors_errorType), ("loop.example/cloison/impl.errNotOk", laid_loop_example_cloison_impl_errNotOk), ("loop.example/cloison/impl.errNotFine", laid_loop_example_cloison_impl_errNotFine)] }
def FnExactTypeWhySaid : Prop := fnExactTypeWhyRow.holds Tryz.pinned (OpenSpec.ofChange fnExactTypeWhySpec)

/-- ITS FALSE NEIGHBOUR: 'it returns false'. Refute it at one input. -/
def fnExactTypeWhyWrong : ChangeSpec := { name := "fnExactTypeWhy", vars := ["loop.example/cloison/impl.errNotFine", "loop.example/cloison/impl.errNotOk"], fn := fun _ => fun
  | [d, g1, g2] => { results := [.lit (.bool false)], args := [d], vars := [g1, g2] }
  | _ => none }
def FnExactTypeWhyWrongFalsely : Prop := fnExactTypeWhyRow.holds Tryz.pinned (OpenSpec.ofChange fnExactTypeWhyWrong)

/- THE SECOND FORM. 'bulk': how many values and letters a reading holds, each counted each time it is reached (what is shared counts as often as it is met; a slice's spare places count too). A statement '..UptoSaid' is the law's where the arguments, and the package variables that the reading takes, are together of bulk at most 1048576: NARROWER than '..Said'. Prove '..Said' where nothing that the law and all that it calls make is longer than what came in: it says more and counts as full. Else prove '..UptoSaid'. A law counts once. -/
mutual
def uptoBulk {H : Type} : DataW H → Nat
  | .lit (.string bytes) => bytes.length + 1
  | .lit _ => 1
  | .nil => 1
  | .ptr d => uptoBulk d + 1
  | .slice elems spare => uptoBulkAll elems + uptoBulkAll spare + 1
  | .agg parts => uptoBulkAll parts + 1
  | .iface _ d => uptoBulk d + 1
  | .map entries => uptoBulkEntries entries + 1
  | .held _ => 1
def uptoBulkAll {H : Type} : List (DataW H) → Nat
  | [] => 0
  | d :: r => uptoBulk d + uptoBulkAll r
def uptoBulkEntries {H : Type} : List (Lit × DataW H) → Nat
  | [] => 0
  | x :: r => uptoBulkEntry x + uptoBulkEntries r
def uptoBulkEntry {H : Type} : Lit × DataW H → Nat
  | (.string bytes, d) => bytes.length + uptoBulk d + 1
  | (_, d) => uptoBulk d + 1
 end
def uptoSmall : (H : Type) → List (DataW H) → Bool := fun _ ds => decide (uptoBulkAll ds ≤ 1048576)
def OpenSpec.upto (s : _root_.Go.ChangeSpec) : _root_.Go.OpenSpec := { _root_.Go.OpenSpec.ofChange s with cond := some uptoSmall }

/-- 'laws.FnTypeWhy', WHERE WHAT IT READS IS OF BULK AT MOST 1048576: true; the input reads as it did. -/
def fnTypeWhyUptoRow : OpenClaim := { program := "ytkgblkbgebpejaagreatdoor", sum := "0ba5e7c38c4347a6e2fac1b790b31878b90a3f6adb522bc248d5d900340fe32b", func := "loop.example/cloison/laws.FnTypeWhy", spec := "fnTypeWhy", inPlace := ["internal/reflectlite.TypeOf", "internal/reflectlite.ValueOf", "(internal/reflectlite.Value).Type", "(internal/reflectlite.Value).IsNil", "(internal/reflectlite.Value).Elem", "(internal/reflectlite.Value).Set"], unfollowed := true, recurses := true, named := ["loop.example/cloison/impl.errNotFine", "loop.example/cloison/impl.errNotOk", "errors.errorType"], ifaces := true, apart := false, laid := [("errors.errorType", laid_errors_errorType), ("loop.example/cloison/impl.errNotOk", laid_loop_example_cloison_impl_errNotOk), ("loop.example/cloison/impl.errNotFine", laid_loop_example_cloison_impl_errNotFine)], narrowed := true }
def FnTypeWhyUptoSaid : Prop := fnTypeWhyUptoRow.holds Tryz.pinned (OpenSpec.upto fnTypeWhySpec)

/-- 'laws.FnTurnType', WHERE WHAT IT READS IS OF BULK AT MOST 1048576: true; the input reads as it did. -/
def fnTurnTypeUptoRow : OpenClaim := { program := "ytkgblkbgebpejaagreatdoor", sum := "0ba5e7c38c4347a6e2fac1b790b31878b90a3f6adb522bc248d5d900340fe32b", func := "loop.example/cloison/laws.FnTurnType", spec := "fnTurnType", inPlace := ["internal/reflectlite.TypeOf", "internal/reflectlite.ValueOf", "(internal/reflectlite.Value).Type", "(internal/reflectlite.Value).IsNil", "(internal/reflectlite.Value).Elem", "(internal/reflectlite.Value).Set"], unfollowed := true, recurses := true, named := ["loop.example/cloison/impl.errNotFine", "loop.example/cloison/impl.errNotOk", "errors.errorType"], ifaces := true, apart := false, laid := [("errors.errorType", laid_errors_errorType), ("loop.example/cloison/impl.errNotOk", laid_loop_example_cloison_impl_errNotOk), ("loop.example/cloison/impl.errNotFine", laid_loop_example_cloison_impl_errNotFine)], narrowed := true }
def FnTurnTypeUptoSaid : Prop := fnTurnTypeUptoRow.holds Tryz.pinned (OpenSpec.upto fnTurnTypeSpec)

/-- 'laws.FnExactTypeWhy', WHERE WHAT IT READS IS OF BULK AT MOST 1048576: true; the input reads as it did. -/
def fnExactTypeWhyUptoRow : OpenClaim := { program := "ytkgblkbgebpejaagreatdoor", sum := "0ba5e7c38c4347a6e2fac1b790b31878b90a3f6adb522bc248d5d900340fe32b", func := "loop.example/cloison/laws.FnExactTypeWhy", spec := "fnExactTypeWhy", inPlace := ["internal/reflectlite.TypeOf", "internal/reflectlite.ValueOf", "(internal/reflectlite.Value).Type", "(internal/reflectlite.Value).IsNil", "(internal/reflectlite.Value).Elem", "(internal/reflectlite.Value).Set"], unfollowed := true, recurses := true, named := ["loop.example/cloison/impl.errNotFine", "loop.example/cloison/impl.errNotOk", "errors.errorType"], ifaces := true, loops := true, apart := false, laid := [("errors.errorType", laid_errors_errorType), ("loop.example/cloison/impl.errNotOk", laid_loop_example_cloison_impl_errNotOk), ("loop.example/cloison/impl.errNotFine", laid_loop_example_cloison_impl_errNotFine)], narrowed := true }
def FnExactTypeWhyUptoSaid : Prop := fnExactTypeWhyUptoRow.holds Tryz.pinned (OpenSpec.upto fnExactTypeWhySpec)

end Rows
end Go.Proofs.YtkgblkbgebpejaaGreatDoor
