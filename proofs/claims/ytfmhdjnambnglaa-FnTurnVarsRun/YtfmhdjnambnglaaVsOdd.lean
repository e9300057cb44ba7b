/- Drawn labels, some spoilt. -/
import Derived.Test.YtfmhdjnambnglaaVsDrx
namespace Go.Proofs.Ytfmhdjnambnglaa
open Go.RowKit
set_option linter.unusedSimpArgs false
set_option linter.unusedVariables false

theorem Rdr.alloc {w : World} {r p : Nat} (h : Rdr w r p) (o : Obj) : Rdr (w.alloc o) r p := h.below ((Below.refl _ _).alloc (Nat.le_refl _) o)

/-- Two cells of a block that may be written. -/
def Pair (x : World) (b : Nat) (v0 v1 : Value) : Prop := x.cell? ⟨b, 0, none⟩ = some v0 ∧ x.cell? ⟨b, 1, none⟩ = some v1 ∧ x.frozen? ⟨b, 0, none⟩ = false ∧ x.frozen? ⟨b, 1, none⟩ = false
theorem Pair.new (x : World) (a b : Int) (t : TypeId) : Pair (x.alloc (.cells #[.int .i64 a, .int .i64 b] t)) x.heap.size (.int .i64 a) (.int .i64 b) := ⟨by simp [go_sem], by simp [go_sem], by simp [go_sem], by simp [go_sem]⟩
theorem Pair.oth {r : Nat} {x x' : World} {b : Nat} {v0 v1 : Value} (h : Pair x b v0 v1) (k : Oth r x x') (hb : b ≠ r) : Pair x' b v0 v1 :=
  ⟨k.cell hb h.1, k.cell hb h.2.1, k.frozen hb h.1 h.2.2.1, k.frozen hb h.2.1 h.2.2.2⟩
theorem Pair.below {x x' : World} {b : Nat} {v0 v1 : Value} (h : Pair x b v0 v1) (k : Below x.heap.size x x') : Pair x' b v0 v1 :=
  ⟨cell_later k h.1, cell_later k h.2.1, frozen_later k h.1 h.2.2.1, frozen_later k h.2.1 h.2.2.2⟩
theorem Pair.alloc {x : World} {b : Nat} {v0 v1 : Value} (h : Pair x b v0 v1) (o : Obj) : Pair (x.alloc o) b v0 v1 := h.below ((Below.refl _ _).alloc (Nat.le_refl _) o)
theorem Pair.lt {x : World} {b : Nat} {v0 v1 : Value} (h : Pair x b v0 v1) : b < x.heap.size := World.block_lt_of_cell? _ _ h.1

end Go.Proofs.Ytfmhdjnambnglaa
