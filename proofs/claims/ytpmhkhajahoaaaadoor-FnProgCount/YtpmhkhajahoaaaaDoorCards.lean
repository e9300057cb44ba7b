/-
  DERIVED. GIVEN WITH THE SEED: THE CARDS: each row of YtpmhkhajahoaaaaDoorRows.lean that lists a variable, with what it lists TIED to the program's text (the seventh form; the later family's looks); each row that meets fmt, with fmt's text TOLD by the authors' own Lean function (tested against real Go, not proved from fmt's source: count such statements apart). THE CARD IS WHAT COUNTS. Prove the row's statement (the work); the ties are given (YtpmhkhajahoaaaaDoorTie.lean); close each card by the builder's one call (the guide's Derived/Test/ToyasCard.lean, 'card_holds'). Laid BY PROGRAM, IN A SANDBOX (cutbox-door.mjs). By AI agents, Wed Nov 11 2026. No macro, syntax, notation, axiom, sorry.
-/
import Derived.Test.YtpmhkhajahoaaaaDoorRows
import GoSem.ClaimSeven
namespace Go.Proofs.YtpmhkhajahoaaaaDoor
namespace Rows

/-- THE TIED CARD OF 'laws.FnTypeAt'. -/
def fnTypeAtCard : Claim7 := { stood := { row := fnTypeAtRow, standIns := [], harness := (true, "3fbda19a89e9b621d017ee0988356af83ef3ab853212731a7b3f17a1aa0e5584"), looks := false }, kinds := [], alts := [], laidByText := true, laidKinds := [.sentinel, .sentinel], laidTests := true, laidLooks := .later }
def FnTypeAtCardSaid : Prop := Claim7.holds Tryd.pinned (.plain (OpenSpec.ofChange fnTypeAtSpec)) fnTypeAtCard

/-- THE TIED CARD OF 'laws.FnTypeSets'. -/
def fnTypeSetsCard : Claim7 := { stood := { row := fnTypeSetsRow, standIns := [], harness := (true, "3fbda19a89e9b621d017ee0988356af83ef3ab853212731a7b3f17a1aa0e5584"), looks := false }, kinds := [], alts := [], laidByText := true, laidKinds := [.sentinel, .sentinel], laidTests := true, laidLooks := .later }
def FnTypeSetsCardSaid : Prop := Claim7.holds Tryd.pinned (.plain (OpenSpec.ofChange fnTypeSetsSpec)) fnTypeSetsCard

/-- THE TIED CARD OF 'laws.FnTypeLess'. -/
def fnTypeLessCard : Claim7 := { stood := { row := fnTypeLessRow, standIns := [], harness := (true, "3fbda19a89e9b621d017ee0988356af83ef3ab853212731a7b3f17a1aa0e5584"), looks := false }, kinds := [], alts := [], laidByText := true, laidKinds := [.sentinel, .sentinel], laidTests := true, laidLooks := .later }
def FnTypeLessCardSaid : Prop := Claim7.holds Tryd.pinned (.plain (OpenSpec.ofChange fnTypeLessSpec)) fnTypeLessCard

/-- THE TIED CARD OF 'laws.FnTypeAny'. -/
def fnTypeAnyCard : Claim7 := { stood := { row := fnTypeAnyRow, standIns := [], harness := (true, "3fbda19a89e9b621d017ee0988356af83ef3ab853212731a7b3f17a1aa0e5584"), looks := false }, kinds := [], alts := [], laidByText := true, laidKinds := [.sentinel, .sentinel], laidTests := true, laidLooks := .later }
def FnTypeAnyCardSaid : Prop := Claim7.holds Tryd.pinned (.plain (OpenSpec.ofChange fnTypeAnySpec)) fnTypeAnyCard

/-- THE TIED CARD OF 'laws.FnTypeTell'. -/
def fnTypeTellCard : Claim7 := { stood := { row := fnTypeTellRow, standIns := [], harness := (true, "3fbda19a89e9b621d017ee0988356af83ef3ab853212731a7b3f17a1aa0e5584"), looks := false }, kinds := [], alts := [], laidByText := true, laidKinds := [.sentinel, .sentinel], laidTests := true, laidLooks := .later }
def FnTypeTellCardSaid : Prop := Claim7.holds Tryd.pinned (.plain (OpenSpec.ofChange fnTypeTellSpec)) fnTypeTellCard

/-- THE TIED CARD OF 'laws.FnTypeSet'. -/
def fnTypeSetCard : Claim7 := { stood := { row := fnTypeSetRow, standIns := [], harness := (true, "3fbda19a89e9b621d017ee0988356af83ef3ab853212731a7b3f17a1aa0e5584"), looks := false }, kinds := [], alts := [], laidByText := true, laidKinds := [.sentinel, .sentinel], laidTests := true, laidLooks := .later }
def FnTypeSetCardSaid : Prop := Claim7.holds Tryd.pinned (.plain (OpenSpec.ofChange fnTypeSetSpec)) fnTypeSetCard

/-- THE TIED CARD OF 'laws.FnTypeDeep'. -/
def fnTypeDeepCard : Claim7 := { stood := { row := fnTypeDeepRow, standIns := [], harness := (true, "3fbda19a89e9b621d017ee0988356af83ef3ab853212731a7b3f17a1aa0e5584"), looks := false }, kinds := [], alts := [], laidByText := true, laidKinds := [.sentinel, .sentinel], laidTests := true, laidLooks := .later }
def FnTypeDeepCardSaid : Prop := Claim7.holds Tryd.pinned (.plain (OpenSpec.ofChange fnTypeDeepSpec)) fnTypeDeepCard

/-- THE TIED CARD OF 'laws.FnProgCount'. -/
def fnProgCountCard : Claim7 := { stood := { row := fnProgCountRow, standIns := [], harness := (true, "3fbda19a89e9b621d017ee0988356af83ef3ab853212731a7b3f17a1aa0e5584"), looks := false }, kinds := [], alts := [], laidByText := true, laidKinds := [.sentinel, .sentinel], laidTests := true, laidLooks := .later }
def FnProgCountCardSaid : Prop := Claim7.holds Tryd.pinned (.plain (OpenSpec.ofChange fnProgCountSpec)) fnProgCountCard

/-- THE TIED CARD OF 'laws.FnExactTypeOk'. -/
def fnExactTypeOkCard : Claim7 := { stood := { row := fnExactTypeOkRow, standIns := [], harness := (true, "3fbda19a89e9b621d017ee0988356af83ef3ab853212731a7b3f17a1aa0e5584"), looks := false }, kinds := [], alts := [], laidByText := true, laidKinds := [.sentinel, .sentinel], laidTests := true, laidLooks := .later }
def FnExactTypeOkCardSaid : Prop := Claim7.holds Tryd.pinned (.plain (OpenSpec.ofChange fnExactTypeOkSpec)) fnExactTypeOkCard

/-- THE TIED CARD OF 'laws.FnExactTypeAt'. -/
def fnExactTypeAtCard : Claim7 := { stood := { row := fnExactTypeAtRow, standIns := [], harness := (true, "3fbda19a89e9b621d017ee0988356af83ef3ab853212731a7b3f17a1aa0e5584"), looks := false }, kinds := [], alts := [], laidByText := true, laidKinds := [.sentinel, .sentinel], laidTests := true, laidLooks := .later }
def FnExactTypeAtCardSaid : Prop := Claim7.holds Tryd.pinned (.plain (OpenSpec.ofChange fnExactTypeAtSpec)) fnExactTypeAtCard

/-- THE TIED CARD OF 'laws.FnExactTypeSets'. -/
def fnExactTypeSetsCard : Claim7 := { stood := { row := fnExactTypeSetsRow, standIns := [], harness := (true, "3fbda19a89e9b621d017ee0988356af83ef3ab853212731a7b3f17a1aa0e5584"), looks := false }, kinds := [], alts := [], laidByText := true, laidKinds := [.sentinel, .sentinel], laidTests := true, laidLooks := .later }
def FnExactTypeSetsCardSaid : Prop := Claim7.holds Tryd.pinned (.plain (OpenSpec.ofChange fnExactTypeSetsSpec)) fnExactTypeSetsCard

/-- THE SECOND FORM's CARD OF 'laws.FnTypeAt'. -/
def fnTypeAtUptoCard : Claim7 := { stood := { row := fnTypeAtUptoRow, standIns := [], harness := (true, "3fbda19a89e9b621d017ee0988356af83ef3ab853212731a7b3f17a1aa0e5584"), looks := false }, kinds := [], alts := [], laidByText := true, laidKinds := [.sentinel, .sentinel], laidTests := true, laidLooks := .later }
def FnTypeAtUptoCardSaid : Prop := Claim7.holds Tryd.pinned (.plain (OpenSpec.upto fnTypeAtSpec)) fnTypeAtUptoCard

/-- THE SECOND FORM's CARD OF 'laws.FnTypeSets'. -/
def fnTypeSetsUptoCard : Claim7 := { stood := { row := fnTypeSetsUptoRow, standIns := [], harness := (true, "3fbda19a89e9b621d017ee0988356af83ef3ab853212731a7b3f17a1aa0e5584"), looks := false }, kinds := [], alts := [], laidByText := true, laidKinds := [.sentinel, .sentinel], laidTests := true, laidLooks := .later }
def FnTypeSetsUptoCardSaid : Prop := Claim7.holds Tryd.pinned (.plain (OpenSpec.upto fnTypeSetsSpec)) fnTypeSetsUptoCard

/-- THE SECOND FORM's CARD OF 'laws.FnTypeLess'. -/
def fnTypeLessUptoCard : Claim7 := { stood := { row := fnTypeLessUptoRow, standIns := [], harness := (true, "3fbda19a89e9b621d017ee0988356af83ef3ab853212731a7b3f17a1aa0e5584"), looks := false }, kinds := [], alts := [], laidByText := true, laidKinds := [.sentinel, .sentinel], laidTests := true, laidLooks := .later }
def FnTypeLessUptoCardSaid : Prop := Claim7.holds Tryd.pinned (.plain (OpenSpec.upto fnTypeLessSpec)) fnTypeLessUptoCard

/-- THE SECOND FORM's CARD OF 'laws.FnTypeAny'. -/
def fnTypeAnyUptoCard : Claim7 := { stood := { row := fnTypeAnyUptoRow, standIns := [], harness := (true, "3fbda19a89e9b621d017ee0988356af83ef3ab853212731a7b3f17a1aa0e5584"), looks := false }, kinds := [], alts := [], laidByText := true, laidKinds := [.sentinel, .sentinel], laidTests := true, laidLooks := .later }
def FnTypeAnyUptoCardSaid : Prop := Claim7.holds Tryd.pinned (.plain (OpenSpec.upto fnTypeAnySpec)) fnTypeAnyUptoCard

/-- THE SECOND FORM's CARD OF 'laws.FnTypeTell'. -/
def fnTypeTellUptoCard : Claim7 := { stood := { row := fnTypeTellUptoRow, standIns := [], harness := (true, "3fbda19a89e9b621d017ee0988356af83ef3ab853212731a7b3f17a1aa0e5584"), looks := false }, kinds := [], alts := [], laidByText := true, laidKinds := [.sentinel, .sentinel], laidTests := true, laidLooks := .later }
def FnTypeTellUptoCardSaid : Prop := Claim7.holds Tryd.pinned (.plain (OpenSpec.upto fnTypeTellSpec)) fnTypeTellUptoCard

/-- THE SECOND FORM's CARD OF 'laws.FnTypeSet'. -/
def fnTypeSetUptoCard : Claim7 := { stood := { row := fnTypeSetUptoRow, standIns := [], harness := (true, "3fbda19a89e9b621d017ee0988356af83ef3ab853212731a7b3f17a1aa0e5584"), looks := false }, kinds := [], alts := [], laidByText := true, laidKinds := [.sentinel, .sentinel], laidTests := true, laidLooks := .later }
def FnTypeSetUptoCardSaid : Prop := Claim7.holds Tryd.pinned (.plain (OpenSpec.upto fnTypeSetSpec)) fnTypeSetUptoCard

/-- THE SECOND FORM's CARD OF 'laws.FnTypeDeep'. -/
def fnTypeDeepUptoCard : Claim7 := { stood := { row := fnTypeDeepUptoRow, standIns := [], harness := (true, "3fbda19a89e9b621d017ee0988356af83ef3ab853212731a7b3f17a1aa0e5584"), looks := false }, kinds := [], alts := [], laidByText := true, laidKinds := [.sentinel, .sentinel], laidTests := true, laidLooks := .later }
def FnTypeDeepUptoCardSaid : Prop := Claim7.holds Tryd.pinned (.plain (OpenSpec.upto fnTypeDeepSpec)) fnTypeDeepUptoCard

/-- THE SECOND FORM's CARD OF 'laws.FnProgCount'. -/
def fnProgCountUptoCard : Claim7 := { stood := { row := fnProgCountUptoRow, standIns := [], harness := (true, "3fbda19a89e9b621d017ee0988356af83ef3ab853212731a7b3f17a1aa0e5584"), looks := false }, kinds := [], alts := [], laidByText := true, laidKinds := [.sentinel, .sentinel], laidTests := true, laidLooks := .later }
def FnProgCountUptoCardSaid : Prop := Claim7.holds Tryd.pinned (.plain (OpenSpec.upto fnProgCountSpec)) fnProgCountUptoCard

/-- THE SECOND FORM's CARD OF 'laws.FnExactTypeOk'. -/
def fnExactTypeOkUptoCard : Claim7 := { stood := { row := fnExactTypeOkUptoRow, standIns := [], harness := (true, "3fbda19a89e9b621d017ee0988356af83ef3ab853212731a7b3f17a1aa0e5584"), looks := false }, kinds := [], alts := [], laidByText := true, laidKinds := [.sentinel, .sentinel], laidTests := true, laidLooks := .later }
def FnExactTypeOkUptoCardSaid : Prop := Claim7.holds Tryd.pinned (.plain (OpenSpec.upto fnExactTypeOkSpec)) fnExactTypeOkUptoCard

/-- THE SECOND FORM's CARD OF 'laws.FnExactTypeAt'. -/
def fnExactTypeAtUptoCard : Claim7 := { stood := { row := fnExactTypeAtUptoRow, standIns := [], harness := (true, "3fbda19a89e9b621d017ee0988356af83ef3ab853212731a7b3f17a1aa0e5584"), looks := false }, kinds := [], alts := [], laidByText := true, laidKinds := [.sentinel, .sentinel], laidTests := true, laidLooks := .later }
def FnExactTypeAtUptoCardSaid : Prop := Claim7.holds Tryd.pinned (.plain (OpenSpec.upto fnExactTypeAtSpec)) fnExactTypeAtUptoCard

/-- THE SECOND FORM's CARD OF 'laws.FnExactTypeSets'. -/
def fnExactTypeSetsUptoCard : Claim7 := { stood := { row := fnExactTypeSetsUptoRow, standIns := [], harness := (true, "3fbda19a89e9b621d017ee0988356af83ef3ab853212731a7b3f17a1aa0e5584"), looks := false }, kinds := [], alts := [], laidByText := true, laidKinds := [.sentinel, .sentinel], laidTests := true, laidLooks := .later }
def FnExactTypeSetsUptoCardSaid : Prop := Claim7.holds Tryd.pinned (.plain (OpenSpec.upto fnExactTypeSetsSpec)) fnExactTypeSetsUptoCard
end Rows
end Go.Proofs.YtpmhkhajahoaaaaDoor
