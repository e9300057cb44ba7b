/-
  NARROWER THAN 'FOR EVERY INPUT', by the rows' own cells (each row's printed sentence says how): FnTypeAt: ifaces, laid · FnTypeSets: ifaces, laid · FnTypeLess: ifaces, laid · FnTypeAny: ifaces, laid · FnTypeTell: ifaces, laid · FnTypeSet: ifaces, laid · FnTypeDeep: ifaces, laid · FnProgCount: ifaces, laid · FnExactTypeOk: loops, ifaces, laid · FnExactTypeAt: loops, ifaces, laid · FnExactTypeSets: loops, ifaces, laid.
  DERIVED. THE GIVEN ROWS OF THIS SEAT. 11 by the template 'for every input the law returns true; each argument reads behind the call as it read before'; 0 by the template 'total and deterministic' (their statements: YtpmhkhajahoaaaaDoorTotals.lean).
  GIVEN WITH THE SEED: the statements are not yours to turn. If you find one false, say at which input.
  Laid BY PROGRAM, IN A SANDBOX (cutbox-rows.mjs): the forced cells as the released guide's own fill.sh prints them over the translation 3676e177828fb5ab… (all of the seat's roots in one cut). By AI agents, Wed Nov 11 2026. No macro, syntax, notation, axiom, sorry.
-/
import Derived.Test.YtpmhkhajahoaaaaDoorChecked
import GoSem.Claim
import GoSem.ClaimJoined
import GoSem.ClaimMapViews
import Derived.JoinedTies
import Derived.KernelRfl
namespace Go.Proofs.YtpmhkhajahoaaaaDoor
/- THE CELL 'sum', in the pinned program and in every row, IS THE sha256 OF THE DUMP (.gsa) THAT YtpmhkhajahoaaaaDoorProg.lean LOADS. Nothing in Lean hashes anything: it is a label: what it is worth is what the hold of that sum in a sandbox is worth. -/
noncomputable def Tryd.pinned : Pinned := { name := "ytpmhkhajahoaaaadoor", sum := "3676e177828fb5abc3975c4abd9f48152d6661ea9068b77f90965c121813e0b8", checked := Tryd.checked }
namespace Rows
def none {H : Type} : Left H := { results := [], args := [] }

/- WHAT THE LISTED PACKAGE-LEVEL VARIABLES READ AS WHEN THE CALL BEGINS. Each datum BY PROGRAM (the guide's laid-datum.mjs) off the statement by which the dump's own 'gosem.cut.vars' lays the variable. In a bare row this is a premise. The card (YtpmhkhajahoaaaaDoorCards.lean) ties it to the program's text. -/
def laid_loop_example_cloison_impl_errNotOk {H : Type} : DataW H := .iface "*errors.errorString" (.ptr (.agg [.lit (.string [110, 111, 32, 112, 114, 111, 103, 114, 97, 109])]))
def laid_loop_example_cloison_impl_errNotFine {H : Type} : DataW H := .iface "*errors.errorString" (.ptr (.agg [.lit (.string [116, 101, 108, 108, 115, 32, 116, 111, 111, 32, 109, 117, 99, 104, 44, 32, 111, 114, 32, 109, 97, 121, 32, 100, 101, 99, 101, 105, 118, 101])]))

/-- 'laws.FnTypeAt': WHATEVER THE INPUT: true; the input reads as it did. -/
def fnTypeAtSpec : ChangeSpec := { name := "fnTypeAt", vars := ["loop.example/cloison/impl.errNotOk", "loop.example/cloison/impl.errNotFine"], fn := fun _ => fun
  | [d, g1, g2] => { results := [.lit (.bool true)], args := [d], vars := [g1, g2] }
  | _ => none }
def fnTypeAtRow : OpenClaim := { program := "ytpmhkhajahoaaaadoor", sum := "3676e177828fb5abc3975c4abd9f48152d6661ea9068b77f90965c121813e0b8", func := "loop.example/cloison/laws.FnTypeAt", spec := "fnTypeAt", unfollowed := true, recurses := true, named := ["loop.example/cloison/impl.errNotOk", "loop.example/cloison/impl.errNotFine"], ifaces := true, apart := false, laid := [("loop.example/cloison/impl.errNotOk", laid_loop_example_cloison_impl_errNotOk), ("loop.example/cloison/impl.errNotFine", laid_loop_example_cloison_impl_errNotFine)] }
def FnTypeAtSaid : Prop := fnTypeAtRow.holds Tryd.pinned (OpenSpec.ofChange fnTypeAtSpec)

/-- ITS FALSE NEIGHBOUR: 'it returns false'. Refute it at one input. -/
def fnTypeAtWrong : ChangeSpec := { name := "fnTypeAt", vars := ["loop.example/cloison/impl.errNotOk", "loop.example/cloison/impl.errNotFine"], fn := fun _ => fun
  | [d, g1, g2] => { results := [.lit (.bool false)], args := [d], vars := [g1, g2] }
  | _ => none }
def FnTypeAtWrongFalsely : Prop := fnTypeAtRow.holds Tryd.pinned (OpenSpec.ofChange fnTypeAtWrong)

/-- 'laws.FnTypeSets': WHATEVER THE INPUT: true; the input reads as it did. -/
def fnTypeSetsSpec : ChangeSpec := { name := "fnTypeSets", vars := ["loop.example/cloison/impl.errNotOk", "loop.example/cloison/impl.errNotFine"], fn := fun _ => fun
  | [d, g1, g2] => { results := [.lit (.bool true)], args := [d], vars := [g1, g2] }
  | _ => none }
def fnTypeSetsRow : OpenClaim := { program := "ytpmhkhajahoaaaadoor", sum := "3676e177828fb5abc3975c4abd9f48152d6661ea9068b77f90965c121813e0b8", func := "loop.example/cloison/laws.FnTypeSets", spec := "fnTypeSets", unfollowed := true, recurses := true, named := ["loop.example/cloison/impl.errNotOk", "loop.example/cloison/impl.errNotFine"], ifaces := true, apart := false, laid := [("loop.example/cloison/impl.errNotOk", laid_loop_example_cloison_impl_errNotOk), ("loop.example/cloison/impl.errNotFine", laid_loop_example_cloison_impl_errNotFine)] }
def FnTypeSetsSaid : Prop := fnTypeSetsRow.holds Tryd.pinned (OpenSpec.ofChange fnTypeSetsSpec)

/-- ITS FALSE NEIGHBOUR: 'it returns false'. Refute it at one input. -/
def fnTypeSetsWrong : ChangeSpec := { name := "fnTypeSets", vars := ["loop.example/cloison/impl.errNotOk", "loop.example/cloison/impl.errNotFine"], fn := fun _ => fun
  | [d, g1, g2] => { results := [.lit (.bool false)], args := [d], vars := [g1, g2] }
  | _ => none }
def FnTypeSetsWrongFalsely : Prop := fnTypeSetsRow.holds Tryd.pinned (OpenSpec.ofChange fnTypeSetsWrong)

/-- 'laws.FnTypeLess': WHATEVER THE INPUT: true; the input reads as it did. -/
def fnTypeLessSpec : ChangeSpec := { name := "fnTypeLess", vars := ["loop.example/cloison/impl.errNotOk", "loop.example/cloison/impl.errNotFine"], fn := fun _ => fun
  | [d1, d2, g1, g2] => { results := [.lit (.bool true)], args := [d1, d2], vars := [g1, g2] }
  | _ => none }
def fnTypeLessRow : OpenClaim := { program := "ytpmhkhajahoaaaadoor", sum := "3676e177828fb5abc3975c4abd9f48152d6661ea9068b77f90965c121813e0b8", func := "loop.example/cloison/laws.FnTypeLess", spec := "fnTypeLess", unfollowed := true, recurses := true, named := ["loop.example/cloison/impl.errNotOk", "loop.example/cloison/impl.errNotFine"], ifaces := true, apart := false, laid := [("loop.example/cloison/impl.errNotOk", laid_loop_example_cloison_impl_errNotOk), ("loop.example/cloison/impl.errNotFine", laid_loop_example_cloison_impl_errNotFine)] }
def FnTypeLessSaid : Prop := fnTypeLessRow.holds Tryd.pinned (OpenSpec.ofChange fnTypeLessSpec)

/-- ITS FALSE NEIGHBOUR: 'it returns false'. Refute it at one input. -/
def fnTypeLessWrong : ChangeSpec := { name := "fnTypeLess", vars := ["loop.example/cloison/impl.errNotOk", "loop.example/cloison/impl.errNotFine"], fn := fun _ => fun
  | [d1, d2, g1, g2] => { results := [.lit (.bool false)], args := [d1, d2], vars := [g1, g2] }
  | _ => none }
def FnTypeLessWrongFalsely : Prop := fnTypeLessRow.holds Tryd.pinned (OpenSpec.ofChange fnTypeLessWrong)

/-- 'laws.FnTypeAny': WHATEVER THE INPUT: true; the input reads as it did. -/
def fnTypeAnySpec : ChangeSpec := { name := "fnTypeAny", vars := ["loop.example/cloison/impl.errNotOk", "loop.example/cloison/impl.errNotFine"], fn := fun _ => fun
  | [d, g1, g2] => { results := [.lit (.bool true)], args := [d], vars := [g1, g2] }
  | _ => none }
def fnTypeAnyRow : OpenClaim := { program := "ytpmhkhajahoaaaadoor", sum := "3676e177828fb5abc3975c4abd9f48152d6661ea9068b77f90965c121813e0b8", func := "loop.example/cloison/laws.FnTypeAny", spec := "fnTypeAny", unfollowed := true, recurses := true, named := ["loop.example/cloison/impl.errNotOk", "loop.example/cloison/impl.errNotFine"], ifaces := true, apart := false, laid := [("loop.example/cloison/impl.errNotOk", laid_loop_example_cloison_impl_errNotOk), ("loop.example/cloison/impl.errNotFine", laid_loop_example_cloison_impl_errNotFine)] }
def FnTypeAnySaid : Prop := fnTypeAnyRow.holds Tryd.pinned (OpenSpec.ofChange fnTypeAnySpec)

/-- ITS FALSE NEIGHBOUR: 'it returns false'. Refute it at one input. -/
def fnTypeAnyWrong : ChangeSpec := { name := "fnTypeAny", vars := ["loop.example/cloison/impl.errNotOk", "loop.example/cloison/impl.errNotFine"], fn := fun _ => fun
  | [d, g1, g2] => { results := [.lit (.bool false)], args := [d], vars := [g1, g2] }
  | _ => none }
def FnTypeAnyWrongFalsely : Prop := fnTypeAnyRow.holds Tryd.pinned (OpenSpec.ofChange fnTypeAnyWrong)

/-- 'laws.FnTypeTell': WHATEVER THE INPUT: true; the input reads as it did. -/
def fnTypeTellSpec : ChangeSpec := { name := "fnTypeTell", vars := ["loop.example/cloison/impl.errNotOk", "loop.example/cloison/impl.errNotFine"], fn := fun _ => fun
  | [d, g1, g2] => { results := [.lit (.bool true)], args := [d], vars := [g1, g2] }
  | _ => none }
def fnTypeTellRow : OpenClaim := { program := "ytpmhkhajahoaaaadoor", sum := "3676e177828fb5abc3975c4abd9f48152d6661ea9068b77f90965c121813e0b8", func := "loop.example/cloison/laws.FnTypeTell", spec := "fnTypeTell", unfollowed := true, recurses := true, named := ["loop.example/cloison/impl.errNotOk", "loop.example/cloison/impl.errNotFine"], ifaces := true, apart := false, laid := [("loop.example/cloison/impl.errNotOk", laid_loop_example_cloison_impl_errNotOk), ("loop.example/cloison/impl.errNotFine", laid_loop_example_cloison_impl_errNotFine)] }
def FnTypeTellSaid : Prop := fnTypeTellRow.holds Tryd.pinned (OpenSpec.ofChange fnTypeTellSpec)

/-- ITS FALSE NEIGHBOUR: 'it returns false'. Refute it at one input. -/
def fnTypeTellWrong : ChangeSpec := { name := "fnTypeTell", vars := ["loop.example/cloison/impl.errNotOk", "loop.example/cloison/impl.errNotFine"], fn := fun _ => fun
  | [d, g1, g2] => { results := [.lit (.bool false)], args := [d], vars := [g1, g2] }
  | _ => none }
def FnTypeTellWrongFalsely : Prop := fnTypeTellRow.holds Tryd.pinned (OpenSpec.ofChange fnTypeTellWrong)

/-- 'laws.FnTypeSet': WHATEVER THE INPUT: true; the input reads as it did. -/
def fnTypeSetSpec : ChangeSpec := { name := "fnTypeSet", vars := ["loop.example/cloison/impl.errNotOk", "loop.example/cloison/impl.errNotFine"], fn := fun _ => fun
  | [d, g1, g2] => { results := [.lit (.bool true)], args := [d], vars := [g1, g2] }
  | _ => none }
def fnTypeSetRow : OpenClaim := { program := "ytpmhkhajahoaaaadoor", sum := "3676e177828fb5abc3975c4abd9f48152d6661ea9068b77f90965c121813e0b8", func := "loop.example/cloison/laws.FnTypeSet", spec := "fnTypeSet", unfollowed := true, recurses := true, named := ["loop.example/cloison/impl.errNotOk", "loop.example/cloison/impl.errNotFine"], ifaces := true, apart := false, laid := [("loop.example/cloison/impl.errNotOk", laid_loop_example_cloison_impl_errNotOk), ("loop.example/cloison/impl.errNotFine", laid_loop_example_cloison_impl_errNotFine)] }
def FnTypeSetSaid : Prop := fnTypeSetRow.holds Tryd.pinned (OpenSpec.ofChange fnTypeSetSpec)

/-- ITS FALSE NEIGHBOUR: 'it returns false'. Refute it at one input. -/
def fnTypeSetWrong : ChangeSpec := { name := "fnTypeSet", vars := ["loop.example/cloison/impl.errNotOk", "loop.example/cloison/impl.errNotFine"], fn := fun _ => fun
  | [d, g1, g2] => { results := [.lit (.bool false)], args := [d], vars := [g1, g2] }
  | _ => none }
def FnTypeSetWrongFalsely : Prop := fnTypeSetRow.holds Tryd.pinned (OpenSpec.ofChange fnTypeSetWrong)

/-- 'laws.FnTypeDeep': WHATEVER THE INPUT: true; the input reads as it did. -/
def fnTypeDeepSpec : ChangeSpec := { name := "fnTypeDeep", vars := ["loop.example/cloison/impl.errNotOk", "loop.example/cloison/impl.errNotFine"], fn := fun _ => fun
  | [d1, d2, g1, g2] => { results := [.lit (.bool true)], args := [d1, d2], vars := [g1, g2] }
  | _ => none }
def fnTypeDeepRow : OpenClaim := { program := "ytpmhkhajahoaaaadoor", sum := "3676e177828fb5abc3975c4abd9f48152d6661ea9068b77f90965c121813e0b8", func := "loop.example/cloison/laws.FnTypeDeep", spec := "fnTypeDeep", unfollowed := true, recurses := true, named := ["loop.example/cloison/impl.errNotOk", "loop.example/cloison/impl.errNotFine"], ifaces := true, apart := false, laid := [("loop.example/cloison/impl.errNotOk", laid_loop_example_cloison_impl_errNotOk), ("loop.example/cloison/impl.errNotFine", laid_loop_example_cloison_impl_errNotFine)] }
def FnTypeDeepSaid : Prop := fnTypeDeepRow.holds Tryd.pinned (OpenSpec.ofChange fnTypeDeepSpec)

/-- ITS FALSE NEIGHBOUR: 'it returns false'. Refute it at one input. -/
def fnTypeDeepWrong : ChangeSpec := { name := "fnTypeDeep", vars := ["loop.example/cloison/impl.errNotOk", "loop.example/cloison/impl.errNotFine"], fn := fun _ => fun
  | [d1, d2, g1, g2] => { results := [.lit (.bool false)], args := [d1, d2], vars := [g1, g2] }
  | _ => none }
def FnTypeDeepWrongFalsely : Prop := fnTypeDeepRow.holds Tryd.pinned (OpenSpec.ofChange fnTypeDeepWrong)

/-- 'laws.FnProgCount': WHATEVER THE INPUT: true; the input reads as it did. -/
def fnProgCountSpec : ChangeSpec := { name := "fnProgCount", vars := ["loop.example/cloison/impl.errNotOk", "loop.example/cloison/impl.errNotFine"], fn := fun _ => fun
  | [d, g1, g2] => { results := [.lit (.bool true)], args := [d], vars := [g1, g2] }
  | _ => none }
def fnProgCountRow : OpenClaim := { program := "ytpmhkhajahoaaaadoor", sum := "3676e177828fb5abc3975c4abd9f48152d6661ea9068b77f90965c121813e0b8", func := "loop.example/cloison/laws.FnProgCount", spec := "fnProgCount", unfollowed := true, recurses := true, named := ["loop.example/cloison/impl.errNotOk", "loop.example/cloison/impl.errNotFine"], ifaces := true, apart := false, laid := [("loop.example/cloison/impl.errNotOk", laid_loop_example_cloison_impl_errNotOk), ("loop.example/cloison/impl.errNotFine", laid_loop_example_cloison_impl_errNotFine)] }
def FnProgCountSaid : Prop := fnProgCountRow.holds Tryd.pinned (OpenSpec.ofChange fnProgCountSpec)

/-- ITS FALSE NEIGHBOUR: 'it returns false'. Refute it at one input. -/
def fnProgCountWrong : ChangeSpec := { name := "fnProgCount", vars := ["loop.example/cloison/impl.errNotOk", "loop.example/cloison/impl.errNotFine"], fn := fun _ => fun
  | [d, g1, g2] => { results := [.lit (.bool false)], args := [d], vars := [g1, g2] }
  | _ => none }
def FnProgCountWrongFalsely : Prop := fnProgCountRow.holds Tryd.pinned (OpenSpec.ofChange fnProgCountWrong)

/-- 'laws.FnExactTypeOk': WHATEVER THE INPUT: true; the input reads as it did. -/
def fnExactTypeOkSpec : ChangeSpec := { name := "fnExactTypeOk", vars := ["loop.example/cloison/impl.errNotOk", "loop.example/cloison/impl.errNotFine"], fn := fun _ => fun
  | [d, g1, g2] => { results := [.lit (.bool true)], args := [d], vars := [g1, g2] }
  | _ => none }
def fnExactTypeOkRow : OpenClaim := { program := "ytpmhkhajahoaaaadoor", sum := "3676e177828fb5abc3975c4abd9f48152d6661ea9068b77f90965c121813e0b8", func := "loop.example/cloison/laws.FnExactTypeOk", spec := "fnExactTypeOk", unfollowed := true, recurses := true, named := ["loop.example/cloison/impl.errNotOk", "loop.example/cloison/impl.errNotFine"], ifaces := true, loops := true, apart := false, laid := [("loop.example/cloison/impl.errNotOk", laid_loop_example_cloison_impl_errNotOk), ("loop.example/cloison/impl.errNotFine", laid_loop_example_cloison_impl_errNotFine)] }
def FnExactTypeOkSaid : Prop := fnExactTypeOkRow.holds Tryd.pinned (OpenSpec.ofChange fnExactTypeOkSpec)

/-- ITS FALSE NEIGHBOUR: 'it returns false'. Refute it at one input. -/
def fnExactTypeOkWrong : ChangeSpec := { name := "fnExactTypeOk", vars := ["loop.example/cloison/impl.errNotOk", "loop.example/cloison/impl.errNotFine"], fn := fun _ => fun
  | [d, g1, g2] => { results := [.lit (.bool false)], args := [d], vars := [g1, g2] }
  | _ => none }
def FnExactTypeOkWrongFalsely : Prop := fnExactTypeOkRow.holds Tryd.pinned (OpenSpec.ofChange fnExactTypeOkWrong)

/-- 'laws.FnExactTypeAt': WHATEVER THE INPUT: true; the input reads as it did. -/
def fnExactTypeAtSpec : ChangeSpec := { name := "fnExactTypeAt", vars := ["loop.example/cloison/impl.errNotOk", "loop.example/cloison/impl.errNotFine"], fn := fun _ => fun
  | [d, g1, g2] => { results := [.lit (.bool true)], args := [d], vars := [g1, g2] }
  | _ => none }
def fnExactTypeAtRow : OpenClaim := { program := "ytpmhkhajahoaaaadoor", sum := "3676e177828fb5abc3975c4abd9f48152d6661ea9068b77f90965c121813e0b8", func := "loop.example/cloison/laws.FnExactTypeAt", spec := "fnExactTypeAt", unfollowed := true, recurses := true, named := ["loop.example/cloison/impl.errNotOk", "loop.example/cloison/impl.errNotFine"], ifaces := true, loops := true, apart := false, laid := [("loop.example/cloison/impl.errNotOk", laid_loop_example_cloison_impl_errNotOk), ("loop.example/cloison/impl.errNotFine", laid_loop_example_cloison_impl_errNotFine)] }
def FnExactTypeAtSaid : Prop := fnExactTypeAtRow.holds Tryd.pinned (OpenSpec.ofChange fnExactTypeAtSpec)

/-- ITS FALSE NEIGHBOUR: 'it returns false'. Refute it at one input. -/
def fnExactTypeAtWrong : ChangeSpec := { name := "fnExactTypeAt", vars := ["loop.example/cloison/impl.errNotOk", "loop.example/cloison/impl.errNotFine"], fn := fun _ => fun
  | [d, g1, g2] => { results := [.lit (.bool false)], args := [d], vars := [g1, g2] }
  | _ => none }
def FnExactTypeAtWrongFalsely : Prop := fnExactTypeAtRow.holds Tryd.pinned (OpenSpec.ofChange fnExactTypeAtWrong)

/-- 'laws.FnExactTypeSets': WHATEVER THE INPUT: true; the input reads as it did. -/
def fnExactTypeSetsSpec : ChangeSpec := { name := "fnExactTypeSets", vars := ["loop.example/cloison/impl.errNotOk", "loop.example/cloison/impl.errNotFine"], fn := fun _ => fun
  | [d, g1, g2] => { results := [.lit (.bool true)], args := [d], vars := [g1, g2] }
  | _ => none }
def fnExactTypeSetsRow : OpenClaim := { program := "ytpmhkhajahoaaaadoor", sum := "3676e177828fb5abc3975c4abd9f48152d6661ea9068b77f90965c121813e0b8", func := "loop.example/cloison/laws.FnExactTypeSets", spec := "fnExactTypeSets", unfollowed := true, recurses := true, named := ["loop.example/cloison/impl.errNotOk", "loop.example/cloison/impl.errNotFine"], ifaces := true, loops := true, apart := false, laid := [("loop.example/cloison/impl.errNotOk", laid_loop_example_cloison_impl_errNotOk), ("loop.example/cloison/impl.errNotFine", laid_loop_example_cloison_impl_errNotFine)] }
def FnExactTypeSetsSaid : Prop := fnExactTypeSetsRow.holds Tryd.pinned (OpenSpec.ofChange fnExactTypeSetsSpec)

/-- ITS FALSE NEIGHBOUR: 'it returns false'. Refute it at one input. -/
def fnExactTypeSetsWrong : ChangeSpec := { name := "fnExactTypeSets", vars := ["loop.example/cloison/impl.errNotOk", "loop.example/cloison/impl.errNotFine"], fn := fun _ => fun
  | [d, g1, g2] => { results := [.lit (.bool false)], args := [d], vars := [g1, g2] }
  | _ => none }
def FnExactTypeSetsWrongFalsely : Prop := fnExactTypeSetsRow.holds Tryd.pinned (OpenSpec.ofChange fnExactTypeSetsWrong)

/- THE SECOND FORM. 'bulk': how many values and letters a reading holds, each counted each time it is reached (what is shared counts as often as it is met; a slice's spare places count too). A statement '..UptoSaid' is the law's where the arguments, and the package variables that the reading takes, are together of bulk at most 1048576: NARROWER than '..Said'. Prove '..Said' where nothing that the law and all that it calls make is longer than what came in: it says more and counts as full. Else prove '..UptoSaid'. A law counts once. -/
mutual
def uptoBulk {H : Type} : DataW H → Nat
  | .lit (.string bytes) => bytes.length + 1
  | .lit _ => 1
  | .nil => 1
  | .ptr d => uptoBulk d + 1
  | .slice elems spare => uptoBulkAll elems + uptoBulkAll spare + 1
  | .agg parts => uptoBulkAll parts + 1
  | .iface _ d => uptoBulk d + 1
  | .map entries => uptoBulkEntries entries + 1
  | .held _ => 1
def uptoBulkAll {H : Type} : List (DataW H) → Nat
  | [] => 0
  | d :: r => uptoBulk d + uptoBulkAll r
def uptoBulkEntries {H : Type} : List (Lit × DataW H) → Nat
  | [] => 0
  | x :: r => uptoBulkEntry x + uptoBulkEntries r
def uptoBulkEntry {H : Type} : Lit × DataW H → Nat
  | (.string bytes, d) => bytes.length + uptoBulk d + 1
  | (_, d) => uptoBulk d + 1
 end
def uptoSmall : (H : Type) → List (DataW H) → Bool := fun _ ds => decide (uptoBulkAll ds ≤ 1048576)
def OpenSpec.upto (s : _root_.Go.ChangeSpec) : _root_.Go.OpenSpec := { _root_.Go.OpenSpec.ofChange s with cond := some uptoSmall }

/-- 'laws.FnTypeAt', WHERE WHAT IT READS IS OF BULK AT MOST 1048576: true; the input reads as it did. -/
def fnTypeAtUptoRow : OpenClaim := { program := "ytpmhkhajahoaaaadoor", sum := "3676e177828fb5abc3975c4abd9f48152d6661ea9068b77f90965c121813e0b8", func := "loop.example/cloison/laws.FnTypeAt", spec := "fnTypeAt", unfollowed := true, recurses := true, named := ["loop.example/cloison/impl.errNotOk", "loop.example/cloison/impl.errNotFine"], ifaces := true, apart := false, laid := [("loop.example/cloison/impl.errNotOk", laid_loop_example_cloison_impl_errNotOk), ("loop.example/cloison/impl.errNotFine", laid_loop_example_cloison_impl_errNotFine)], narrowed := true }
def FnTypeAtUptoSaid : Prop := fnTypeAtUptoRow.holds Tryd.pinned (OpenSpec.upto fnTypeAtSpec)

/-- 'laws.FnTypeSets', WHERE WHAT IT READS IS OF BULK AT MOST 1048576: true; the input reads as it did. -/
def fnTypeSetsUptoRow : OpenClaim := { program := "ytpmhkhajahoaaaadoor", sum := "3676e177828fb5abc3975c4abd9f48152d6661ea9068b77f90965c121813e0b8", func := "loop.example/cloison/laws.FnTypeSets", spec := "fnTypeSets", unfollowed := true, recurses := true, named := ["loop.example/cloison/impl.errNotOk", "loop.example/cloison/impl.errNotFine"], ifaces := true, apart := false, laid := [("loop.example/cloison/impl.errNotOk", laid_loop_example_cloison_impl_errNotOk), ("loop.example/cloison/impl.errNotFine", laid_loop_example_cloison_impl_errNotFine)], narrowed := true }
def FnTypeSetsUptoSaid : Prop := fnTypeSetsUptoRow.holds Tryd.pinned (OpenSpec.upto fnTypeSetsSpec)

/-- 'laws.FnTypeLess', WHERE WHAT IT READS IS OF BULK AT MOST 1048576: true; the input reads as it did. -/
def fnTypeLessUptoRow : OpenClaim := { program := "ytpmhkhajahoaaaadoor", sum := "3676e177828fb5abc3975c4abd9f48152d6661ea9068b77f90965c121813e0b8", func := "loop.example/cloison/laws.FnTypeLess", spec := "fnTypeLess", unfollowed := true, recurses := true, named := ["loop.example/cloison/impl.errNotOk", "loop.example/cloison/impl.errNotFine"], ifaces := true, apart := false, laid := [("loop.example/cloison/impl.errNotOk", laid_loop_example_cloison_impl_errNotOk), ("loop.example/cloison/impl.errNotFine", laid_loop_example_cloison_impl_errNotFine)], narrowed := true }
def FnTypeLessUptoSaid : Prop := fnTypeLessUptoRow.holds Tryd.pinned (OpenSpec.upto fnTypeLessSpec)

/-- 'laws.FnTypeAny', WHERE WHAT IT READS IS OF BULK AT MOST 1048576: true; the input reads as it did. -/
def fnTypeAnyUptoRow : OpenClaim := { program := "ytpmhkhajahoaaaadoor", sum := "3676e177828fb5abc3975c4abd9f48152d6661ea9068b77f90965c121813e0b8", func := "loop.example/cloison/laws.FnTypeAny", spec := "fnTypeAny", unfollowed := true, recurses := true, named := ["loop.example/cloison/impl.errNotOk", "loop.example/cloison/impl.errNotFine"], ifaces := true, apart := false, laid := [("loop.example/cloison/impl.errNotOk", laid_loop_example_cloison_impl_errNotOk), ("loop.example/cloison/impl.errNotFine", laid_loop_example_cloison_impl_errNotFine)], narrowed := true }
def FnTypeAnyUptoSaid : Prop := fnTypeAnyUptoRow.holds Tryd.pinned (OpenSpec.upto fnTypeAnySpec)

/-- 'laws.FnTypeTell', WHERE WHAT IT READS IS OF BULK AT MOST 1048576: true; the input reads as it did. -/
def fnTypeTellUptoRow : OpenClaim := { program := "ytpmhkhajahoaaaadoor", sum := "3676e177828fb5abc3975c4abd9f48152d6661ea9068b77f90965c121813e0b8", func := "loop.example/cloison/laws.FnTypeTell", spec := "fnTypeTell", unfollowed := true, recurses := true, named := ["loop.example/cloison/impl.errNotOk", "loop.example/cloison/impl.errNotFine"], ifaces := true, apart := false, laid := [("loop.example/cloison/impl.errNotOk", laid_loop_example_cloison_impl_errNotOk), ("loop.example/cloison/impl.errNotFine", laid_loop_example_cloison_impl_errNotFine)], narrowed := true }
def FnTypeTellUptoSaid : Prop := fnTypeTellUptoRow.holds Tryd.pinned (OpenSpec.upto fnTypeTellSpec)

/-- 'laws.FnTypeSet', WHERE WHAT IT READS IS OF BULK AT MOST 1048576: true; the input reads as it did. -/
def fnTypeSetUptoRow : OpenClaim := { program := "ytpmhkhajahoaaaadoor", sum := "3676e177828fb5abc3975c4abd9f48152d6661ea9068b77f90965c121813e0b8", func := "loop.example/cloison/laws.FnTypeSet", spec := "fnTypeSet", unfollowed := true, recurses := true, named := ["loop.example/cloison/impl.errNotOk", "loop.example/cloison/impl.errNotFine"], ifaces := true, apart := false, laid := [("loop.example/cloison/impl.errNotOk", laid_loop_example_cloison_impl_errNotOk), ("loop.example/cloison/impl.errNotFine", laid_loop_example_cloison_impl_errNotFine)], narrowed := true }
def FnTypeSetUptoSaid : Prop := fnTypeSetUptoRow.holds Tryd.pinned (OpenSpec.upto fnTypeSetSpec)

/-- 'laws.FnTypeDeep', WHERE WHAT IT READS IS OF BULK AT MOST 1048576: true; the input reads as it did. -/
def fnTypeDeepUptoRow : OpenClaim := { program := "ytpmhkhajahoaaaadoor", sum := "3676e177828fb5abc3975c4abd9f48152d6661ea9068b77f90965c121813e0b8", func := "loop.example/cloison/laws.FnTypeDeep", spec := "fnTypeDeep", unfollowed := true, recurses := true, named := ["loop.example/cloison/impl.errNotOk", "loop.example/cloison/impl.errNotFine"], ifaces := true, apart := false, laid := [("loop.example/cloison/impl.errNotOk", laid_loop_example_cloison_impl_errNotOk), ("loop.example/cloison/impl.errNotFine", laid_loop_example_cloison_impl_errNotFine)], narrowed := true }
def FnTypeDeepUptoSaid : Prop := fnTypeDeepUptoRow.holds Tryd.pinned (OpenSpec.upto fnTypeDeepSpec)

/-- 'laws.FnProgCount', WHERE WHAT IT READS IS OF BULK AT MOST 1048576: true; the input reads as it did. -/
def fnProgCountUptoRow : OpenClaim := { program := "ytpmhkhajahoaaaadoor", sum := "3676e177828fb5abc3975c4abd9f48152d6661ea9068b77f90965c121813e0b8", func := "loop.example/cloison/laws.FnProgCount", spec := "fnProgCount", unfollowed := true, recurses := true, named := ["loop.example/cloison/impl.errNotOk", "loop.example/cloison/impl.errNotFine"], ifaces := true, apart := false, laid := [("loop.example/cloison/impl.errNotOk", laid_loop_example_cloison_impl_errNotOk), ("loop.example/cloison/impl.errNotFine", laid_loop_example_cloison_impl_errNotFine)], narrowed := true }
def FnProgCountUptoSaid : Prop := fnProgCountUptoRow.holds Tryd.pinned (OpenSpec.upto fnProgCountSpec)

/-- 'laws.FnExactTypeOk', WHERE WHAT IT READS IS OF BULK AT MOST 1048576: true; the input reads as it did. -/
def fnExactTypeOkUptoRow : OpenClaim := { program := "ytpmhkhajahoaaaadoor", sum := "3676e177828fb5abc3975c4abd9f48152d6661ea9068b77f90965c121813e0b8", func := "loop.example/cloison/laws.FnExactTypeOk", spec := "fnExactTypeOk", unfollowed := true, recurses := true, named := ["loop.example/cloison/impl.errNotOk", "loop.example/cloison/impl.errNotFine"], ifaces := true, loops := true, apart := false, laid := [("loop.example/cloison/impl.errNotOk", laid_loop_example_cloison_impl_errNotOk), ("loop.example/cloison/impl.errNotFine", laid_loop_example_cloison_impl_errNotFine)], narrowed := true }
def FnExactTypeOkUptoSaid : Prop := fnExactTypeOkUptoRow.holds Tryd.pinned (OpenSpec.upto fnExactTypeOkSpec)

/-- 'laws.FnExactTypeAt', WHERE WHAT IT READS IS OF BULK AT MOST 1048576: true; the input reads as it did. -/
def fnExactTypeAtUptoRow : OpenClaim := { program := "ytpmhkhajahoaaaadoor", sum := "3676e177828fb5abc3975c4abd9f48152d6661ea9068b77f90965c121813e0b8", func := "loop.example/cloison/laws.FnExactTypeAt", spec := "fnExactTypeAt", unfollowed := true, recurses := true, named := ["loop.example/cloison/impl.errNotOk", "loop.example/cloison/impl.errNotFine"], ifaces := true, loops := true, apart := false, laid := [("loop.example/cloison/impl.errNotOk", laid_loop_example_cloison_impl_errNotOk), ("loop.example/cloison/impl.errNotFine", laid_loop_example_cloison_impl_errNotFine)], narrowed := true }
def FnExactTypeAtUptoSaid : Prop := fnExactTypeAtUptoRow.holds Tryd.pinned (OpenSpec.upto fnExactTypeAtSpec)

/-- 'laws.FnExactTypeSets', WHERE WHAT IT READS IS OF BULK AT MOST 1048576: true; the input reads as it did. -/
def fnExactTypeSetsUptoRow : OpenClaim := { program := "ytpmhkhajahoaaaadoor", sum := "3676e177828fb5abc3975c4abd9f48152d6661ea9068b77f90965c121813e0b8", func := "loop.example/cloison/laws.FnExactTypeSets", spec := "fnExactTypeSets", unfollowed := true, recurses := true, named := ["loop.example/cloison/impl.errNotOk", "loop.example/cloison/impl.errNotFine"], ifaces := true, loops := true, apart := false, laid := [("loop.example/cloison/impl.errNotOk", laid_loop_example_cloison_impl_errNotOk), ("loop.example/cloison/impl.errNotFine", laid_loop_example_cloison_impl_errNotFine)], narrowed := true }
def FnExactTypeSetsUptoSaid : Prop := fnExactTypeSetsUptoRow.holds Tryd.pinned (OpenSpec.upto fnExactTypeSetsSpec)

end Rows
end Go.Proofs.YtpmhkhajahoaaaaDoor
