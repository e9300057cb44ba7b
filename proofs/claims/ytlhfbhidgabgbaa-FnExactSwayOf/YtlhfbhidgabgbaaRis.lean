/- bitRows: the iterator's value, over a new box that holds how many variables there are. -/
import Derived.Test.YtlhfbhidgabgbaaRit
namespace Go.Proofs.Ytlhfbhidgabgbaa
open Go.RowKit
set_option linter.unusedSimpArgs false
set_option linter.unusedVariables false

set_option maxHeartbeats 4000000 in
theorem bitRows_any (vars : Nat) (w : World) :
    Calls Try.prog 82 #[.int .i64 (vars : Int)] w fun e w' => e = .returned (.func (.func 104) #[] #[.pointer (some ⟨w.heap.size, 0, none⟩)]) ∧ Below w.heap.size w w' ∧ w.heap.size < w'.heap.size ∧ w'.cell? ⟨w.heap.size, 0, none⟩ = some (.int .i64 (vars : Int)) := by
  go_enter Try.func82, Try.ntmps82
  go_wp2
  go_ret
  exact ⟨rfl, (Below.refl _ _).alloc (Nat.le_refl _) _, by simp, by simp⟩

#print axioms bitRows_any
end Go.Proofs.Ytlhfbhidgabgbaa
