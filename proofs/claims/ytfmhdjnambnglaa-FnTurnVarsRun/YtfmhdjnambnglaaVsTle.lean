/- The program's labels: each turned, and each moved to the place of its new name. -/
import Derived.Test.YtfmhdjnambnglaaVsTwl
import Derived.Test.YtfmhdjnambnglaaVsToC
namespace Go.Proofs.Ytfmhdjnambnglaa
open Go.RowKit
set_option linter.unusedSimpArgs false
set_option linter.unusedVariables false
attribute [local go_sem] World.cell?_alloc_some

def turnLs (zs : List Int) (ls : List (Int × Int)) : List (Int × Int) := ls.map fun a => (turnI a.1 zs, turnI a.2 zs)
end Go.Proofs.Ytfmhdjnambnglaa
