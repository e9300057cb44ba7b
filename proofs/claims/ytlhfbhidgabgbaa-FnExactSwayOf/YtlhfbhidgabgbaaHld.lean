/- Steps that are held against numbers, one behind the other. -/
import Derived.Test.YtlhfbhidgabgbaaMkB
namespace Go.Proofs.Ytlhfbhidgabgbaa
open Go.RowKit
set_option linter.unusedSimpArgs false
set_option linter.unusedVariables false

end Go.Proofs.Ytlhfbhidgabgbaa
