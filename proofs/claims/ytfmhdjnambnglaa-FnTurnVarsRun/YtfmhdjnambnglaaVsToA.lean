/- An argument laid anew: a step. -/
import Derived.Test.YtfmhdjnambnglaaVsOwn
namespace Go.Proofs.Ytfmhdjnambnglaa
open Go.RowKit
set_option linter.unusedSimpArgs false
set_option linter.unusedVariables false
attribute [local go_sem] World.cell?_alloc_some

end Go.Proofs.Ytfmhdjnambnglaa
