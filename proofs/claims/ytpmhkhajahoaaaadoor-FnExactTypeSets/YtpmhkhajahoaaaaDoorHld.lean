/- Steps that are held against numbers, one behind the other. -/
import Derived.Test.YtpmhkhajahoaaaaDoorMkB
namespace Go.Proofs.YtpmhkhajahoaaaaDoor
open Go.RowKit
set_option linter.unusedSimpArgs false
set_option linter.unusedVariables false

end Go.Proofs.YtpmhkhajahoaaaaDoor
