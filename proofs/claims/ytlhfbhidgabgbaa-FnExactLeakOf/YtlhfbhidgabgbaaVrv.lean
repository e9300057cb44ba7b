/- Numbers laid anew, in a row that is there. -/
import Derived.Test.YtlhfbhidgabgbaaRwx
namespace Go.Proofs.Ytlhfbhidgabgbaa
open Go.RowKit
set_option linter.unusedSimpArgs false
set_option linter.unusedVariables false

end Go.Proofs.Ytlhfbhidgabgbaa
