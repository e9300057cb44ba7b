/-
  DERIVED. GIVEN WITH THE SEED: THE CARDS: each row of YtkgblkbgebpejaaGreatDoorRows.lean that lists a variable, with what it lists TIED to the program's text (the seventh form; the later family's looks); each row that meets fmt, with fmt's text TOLD by the authors' own Lean function (tested against real Go, not proved from fmt's source: count such statements apart). THE CARD IS WHAT COUNTS. Prove the row's statement (the work); the ties are given (YtkgblkbgebpejaaGreatDoorTie.lean); close each card by the builder's one call (the guide's Derived/Test/ToyasCard.lean, 'card_holds'). Laid BY PROGRAM, IN A SANDBOX (cutbox-door.mjs). By AI agents, Wed Nov 11 2026. No macro, syntax, notation, axiom, sorry.
-/
import Derived.Test.YtkgblkbgebpejaaGreatDoorRows
import GoSem.ClaimSeven
namespace Go.Proofs.YtkgblkbgebpejaaGreatDoor
namespace Rows

/-- THE TIED CARD OF 'laws.FnTypeWhy'. -/
def fnTypeWhyCard : Claim7 := { stood := { row := fnTypeWhyRow, standIns := [], harness := (true, "a31cedbf121919add27b8609b447123db98dddf5c9a9302848bc54df2f930706"), looks := true }, kinds := [], alts := [], laidByText := true, laidKinds := [.handle, .sentinel, .sentinel], laidTests := true, laidLooks := .later }
def FnTypeWhyCardSaid : Prop := Claim7.holds Tryz.pinned (.plain (OpenSpec.ofChange fnTypeWhySpec)) fnTypeWhyCard

/-- THE TIED CARD OF 'laws.FnTurnType'. -/
def fnTurnTypeCard : Claim7 := { stood := { row := fnTurnTypeRow, standIns := [], harness := (true, "a31cedbf121919add27b8609b447123db98dddf5c9a9302848bc54df2f930706"), looks := true }, kinds := [], alts := [], laidByText := true, laidKinds := [.handle, .sentinel, .sentinel], laidTests := true, laidLooks := .later }
def FnTurnTypeCardSaid : Prop := Claim7.holds Tryz.pinned (.plain (OpenSpec.ofChange fnTurnTypeSpec)) fnTurnTypeCard

/-- THE TIED CARD OF 'laws.FnExactTypeWhy'. -/
def fnExactTypeWhyCard : Claim7 := { stood := { row := fnExactTypeWhyRow, standIns := [], harness := (true, "a31cedbf121919add27b8609b447123db98dddf5c9a9302848bc54df2f930706"), looks := true }, kinds := [], alts := [], laidByText := true, laidKinds := [.handle, .sentinel, .sentinel], laidTests := true, laidLooks := .later }
def FnExactTypeWhyCardSaid : Prop := Claim7.holds Tryz.pinned (.plain (OpenSpec.ofChange fnExactTypeWhySpec)) fnExactTypeWhyCard

/-- THE SECOND FORM's CARD OF 'laws.FnTypeWhy'. -/
def fnTypeWhyUptoCard : Claim7 := { stood := { row := fnTypeWhyUptoRow, standIns := [], harness := (true, "a31cedbf121919add27b8609b447123db98dddf5c9a9302848bc54df2f930706"), looks := true }, kinds := [], alts := [], laidByText := true, laidKinds := [.handle, .sentinel, .sentinel], laidTests := true, laidLooks := .later }
def FnTypeWhyUptoCardSaid : Prop := Claim7.holds Tryz.pinned (.plain (OpenSpec.upto fnTypeWhySpec)) fnTypeWhyUptoCard

/-- THE SECOND FORM's CARD OF 'laws.FnTurnType'. -/
def fnTurnTypeUptoCard : Claim7 := { stood := { row := fnTurnTypeUptoRow, standIns := [], harness := (true, "a31cedbf121919add27b8609b447123db98dddf5c9a9302848bc54df2f930706"), looks := true }, kinds := [], alts := [], laidByText := true, laidKinds := [.handle, .sentinel, .sentinel], laidTests := true, laidLooks := .later }
def FnTurnTypeUptoCardSaid : Prop := Claim7.holds Tryz.pinned (.plain (OpenSpec.upto fnTurnTypeSpec)) fnTurnTypeUptoCard

/-- THE SECOND FORM's CARD OF 'laws.FnExactTypeWhy'. -/
def fnExactTypeWhyUptoCard : Claim7 := { stood := { row := fnExactTypeWhyUptoRow, standIns := [], harness := (true, "a31cedbf121919add27b8609b447123db98dddf5c9a9302848bc54df2f930706"), looks := true }, kinds := [], alts := [], laidByText := true, laidKinds := [.handle, .sentinel, .sentinel], laidTests := true, laidLooks := .later }
def FnExactTypeWhyUptoCardSaid : Prop := Claim7.holds Tryz.pinned (.plain (OpenSpec.upto fnExactTypeWhySpec)) fnExactTypeWhyUptoCard
end Rows
end Go.Proofs.YtkgblkbgebpejaaGreatDoor
