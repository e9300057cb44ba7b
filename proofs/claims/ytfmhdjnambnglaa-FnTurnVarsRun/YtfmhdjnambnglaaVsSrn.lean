/- What comes of a program, by the model. -/
import Derived.Test.YtfmhdjnambnglaaVsDol
namespace Go.Proofs.Ytfmhdjnambnglaa
open Go.RowKit
set_option linter.unusedSimpArgs false
set_option linter.unusedVariables false
attribute [local go_sem] World.cell?_alloc_some

/-- What comes of a program; nothing, if it is not so. -/
def runS (ls : List (Int × Int)) (d : Nat) (T : Tr d) (zs : List Int) : RSt := if numsB ls d T zs = true then doT d T ⟨zs, [], []⟩ else ⟨[], [], []⟩
theorem R3.nil (B : Nat) (w : World) : R3 B w (.slice none 0 0) (.slice none 0 0) (.slice none 0 0) ⟨[], [], []⟩ :=
  ⟨World.ownsRow_nil _ _ _ _, World.ownsRow_nil _ _ _ _, World.ownsRow_nil _ _ _ _, fun _ e => (by cases e), fun _ e => (by cases e), fun _ e => (by cases e)⟩

end Go.Proofs.Ytfmhdjnambnglaa
