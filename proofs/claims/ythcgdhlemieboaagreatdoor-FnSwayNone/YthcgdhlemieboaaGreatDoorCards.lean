/-
  DERIVED. GIVEN WITH THE SEED: THE CARDS: each row of YthcgdhlemieboaaGreatDoorRows.lean that lists a variable, with what it lists TIED to the program's text (the seventh form; the later family's looks); each row that meets fmt, with fmt's text TOLD by the authors' own Lean function (tested against real Go, not proved from fmt's source: count such statements apart). THE CARD IS WHAT COUNTS. Prove the row's statement (the work); the ties are given (YthcgdhlemieboaaGreatDoorTie.lean); close each card by the builder's one call (the guide's Derived/Test/ToyasCard.lean, 'card_holds'). Laid BY PROGRAM, IN A SANDBOX (cutbox-door.mjs). By AI agents, Wed Nov 11 2026. No macro, syntax, notation, axiom, sorry.
-/
import Derived.Test.YthcgdhlemieboaaGreatDoorRows
import GoSem.ClaimSeven
namespace Go.Proofs.YthcgdhlemieboaaGreatDoor
namespace Rows

/-- THE TIED CARD OF 'laws.FnLeakNone'. -/
def fnLeakNoneCard : Claim7 := { stood := { row := fnLeakNoneRow, standIns := [], harness := (true, "06c38f8cb5039e54c67c9f9f231dcbd0f383a75fd0299a0d65fdff99a51e5d6e"), looks := false }, kinds := [], alts := [], laidByText := true, laidKinds := [.sentinel, .sentinel], laidTests := true, laidLooks := .later }
def FnLeakNoneCardSaid : Prop := Claim7.holds Tryz.pinned (.plain (OpenSpec.ofChange fnLeakNoneSpec)) fnLeakNoneCard

/-- THE TIED CARD OF 'laws.FnSwayNone'. -/
def fnSwayNoneCard : Claim7 := { stood := { row := fnSwayNoneRow, standIns := [], harness := (true, "06c38f8cb5039e54c67c9f9f231dcbd0f383a75fd0299a0d65fdff99a51e5d6e"), looks := false }, kinds := [], alts := [], laidByText := true, laidKinds := [.sentinel, .sentinel], laidTests := true, laidLooks := .later }
def FnSwayNoneCardSaid : Prop := Claim7.holds Tryz.pinned (.plain (OpenSpec.ofChange fnSwayNoneSpec)) fnSwayNoneCard

/-- THE SECOND FORM's CARD OF 'laws.FnLeakNone'. -/
def fnLeakNoneUptoCard : Claim7 := { stood := { row := fnLeakNoneUptoRow, standIns := [], harness := (true, "06c38f8cb5039e54c67c9f9f231dcbd0f383a75fd0299a0d65fdff99a51e5d6e"), looks := false }, kinds := [], alts := [], laidByText := true, laidKinds := [.sentinel, .sentinel], laidTests := true, laidLooks := .later }
def FnLeakNoneUptoCardSaid : Prop := Claim7.holds Tryz.pinned (.plain (OpenSpec.upto fnLeakNoneSpec)) fnLeakNoneUptoCard

/-- THE SECOND FORM's CARD OF 'laws.FnSwayNone'. -/
def fnSwayNoneUptoCard : Claim7 := { stood := { row := fnSwayNoneUptoRow, standIns := [], harness := (true, "06c38f8cb5039e54c67c9f9f231dcbd0f383a75fd0299a0d65fdff99a51e5d6e"), looks := false }, kinds := [], alts := [], laidByText := true, laidKinds := [.sentinel, .sentinel], laidTests := true, laidLooks := .later }
def FnSwayNoneUptoCardSaid : Prop := Claim7.holds Tryz.pinned (.plain (OpenSpec.upto fnSwayNoneSpec)) fnSwayNoneUptoCard
end Rows
end Go.Proofs.YthcgdhlemieboaaGreatDoor
