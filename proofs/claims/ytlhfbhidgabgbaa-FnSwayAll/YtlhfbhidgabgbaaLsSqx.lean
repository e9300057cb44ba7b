/- An argument laid anew: a step. -/
import Derived.Test.YtlhfbhidgabgbaaLsOwn
import Derived.Test.YtlhfbhidgabgbaaLsCsB
import Derived.OwnWalk
import Derived.Deep.Upon
import Derived.Test.YtlhfbhidgabgbaaLsTre
import Derived.Deep.RegionHeld3
import Derived.Deep.DrawnRows
namespace Go.Proofs.Ytlhfbhidgabgbaa
open Go.RowKit
set_option linter.unusedSimpArgs false
set_option linter.unusedVariables false
attribute [local go_sem] World.cell?_alloc_some

end Go.Proofs.Ytlhfbhidgabgbaa

namespace Go.Proofs.Ytlhfbhidgabgbaa
open Go.RowKit
set_option linter.unusedSimpArgs false
set_option linter.unusedVariables false

theorem row_there {w : World} {base : Nat} {e : TypeId} {size g n c : Nat} {xs : List Value} (h : w.ownsRow base e size (.slice (some ⟨g, 0, none⟩) n c) n xs) : w.there g 0 (n * size) := by
  obtain ⟨_, ⟨h1, _⟩ | ⟨g', cap, cur, hv, hg, hh, hc, hm, hs, ht⟩⟩ := h
  · cases h1
  · cases hv
    intro j hj
    have hlt : j < cur.size := by rw [hs]; exact Nat.lt_of_lt_of_le hj (Nat.mul_le_mul_right _ hc)
    constructor
    · simp [World.cell?, hh, hlt]
    · simp [World.frozen?, hh]

end Go.Proofs.Ytlhfbhidgabgbaa

namespace Go.Proofs.Ytlhfbhidgabgbaa
open Go.RowKit
set_option linter.unusedSimpArgs false
set_option linter.unusedVariables false

def szR (left : Int) (c : Nat) : Int := if (c : Int) ≤ left then left - c else -1
end Go.Proofs.Ytlhfbhidgabgbaa

namespace Go.Proofs.Ytlhfbhidgabgbaa
open Go.RowKit
set_option linter.unusedSimpArgs false
set_option linter.unusedVariables false
attribute [local go_sem ↓] Go.wp_at_zero Go.wp_at_succ
attribute [local go_sem] World.cell?_alloc_some

end Go.Proofs.Ytlhfbhidgabgbaa
