/- Rows of truths. -/
import Derived.Test.YtlhfbhidgabgbaaRtx
namespace Go.Proofs.Ytlhfbhidgabgbaa
open Go.RowKit
set_option linter.unusedSimpArgs false
set_option linter.unusedVariables false
attribute [local go_sem] World.cell?_alloc_some

theorem infoBool : (Try.prog.info? 4).map (fun i => (i.zero, i.size, i.bytes)) = some (some (.bool false), 1, 1) := by kernel_rfl

end Go.Proofs.Ytlhfbhidgabgbaa
