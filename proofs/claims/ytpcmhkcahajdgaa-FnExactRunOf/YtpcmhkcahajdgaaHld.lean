/- Steps that are held against numbers, one behind the other. -/
import Derived.Test.YtpcmhkcahajdgaaMkB
namespace Go.Proofs.Ytpcmhkcahajdgaa
open Go.RowKit
set_option linter.unusedSimpArgs false
set_option linter.unusedVariables false

end Go.Proofs.Ytpcmhkcahajdgaa
