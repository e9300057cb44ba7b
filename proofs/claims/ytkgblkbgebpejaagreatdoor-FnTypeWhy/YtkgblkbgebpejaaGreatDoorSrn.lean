/- What comes of a program, by the model. -/
import Derived.Test.YtkgblkbgebpejaaGreatDoorDol
namespace Go.Proofs.YtkgblkbgebpejaaGreatDoor
open Go.RowKit
set_option linter.unusedSimpArgs false
set_option linter.unusedVariables false
attribute [local go_sem] World.cell?_alloc_some

/-- What comes of a program; nothing, if it is not so. -/
def runS (ls : List (Int × Int)) (d : Nat) (T : Tr d) (zs : List Int) : RSt := if numsB ls d T zs = true then doT d T ⟨zs, [], []⟩ else ⟨[], [], []⟩

end Go.Proofs.YtkgblkbgebpejaaGreatDoor
