/- Numbers that are drawn. -/
import Derived.Test.YtkgblkbgebpejaaGreatDoorSrn
import Derived.Test.YtkgblkbgebpejaaGreatDoorDpr
namespace Go.Proofs.YtkgblkbgebpejaaGreatDoor
open Go.RowKit
set_option linter.unusedSimpArgs false
set_option linter.unusedVariables false
attribute [local go_sem] World.cell?_alloc_some

theorem Oth.grown {r : Nat} {a w w' : World} {row : Option Nat} (h : Oth r a w) (hg : w.grownBy w' row) (hr : ∀ k, row = some k → a.heap.size ≤ k) : Oth r a w' :=
  ⟨hg.os.trans h.os, hg.tape.trans h.tape, hg.output.trans h.output, Nat.le_trans h.size hg.size, fun k hk hne => (hg.block k (Nat.lt_of_lt_of_le hk h.size) (fun e => by have := hr k e.symm; omega)).trans (h.block k hk hne)⟩
theorem rowq_oth {r : Nat} {w w' : World} {base : Nat} {e : TypeId} {sz : Nat} {v : Value} {n : Nat} {xs : List Value} (h : w.ownsRow base e sz v n xs) (k : Oth r w w') (hr : r < base) : w'.ownsRow base e sz v n xs :=
  rowg_frame h (fun b e => k.block b (World.ownsRow.lt h b e).2 (by have := (World.ownsRow.lt h b e).1; omega))
theorem tab6 (w : World) (v0 v1 v2 v3 v4 v5 : Int) (T : TypeId) (k : Int) (h0 : 0 ≤ k) (h1 : k < 6) : ∃ x, (w.alloc (.cells #[.int .i64 v0, .int .i64 v1, .int .i64 v2, .int .i64 v3, .int .i64 v4, .int .i64 v5] T)).cell? ⟨w.heap.size, k.toNat, none⟩ = some (.int .i64 x) := by
  obtain rfl | rfl | rfl | rfl | rfl | rfl : k = 0 ∨ k = 1 ∨ k = 2 ∨ k = 3 ∨ k = 4 ∨ k = 5 := by omega
  · exact ⟨v0, by simp⟩
  · exact ⟨v1, by simp⟩
  · exact ⟨v2, by simp⟩
  · exact ⟨v3, by simp⟩
  · exact ⟨v4, by simp⟩
  · exact ⟨v5, by simp⟩
theorem tab2 (w : World) (v0 v1 : Int) (T : TypeId) (k : Int) (h0 : 0 ≤ k) (h1 : k < 2) : ∃ x, (w.alloc (.cells #[.int .i64 v0, .int .i64 v1] T)).cell? ⟨w.heap.size, k.toNat, none⟩ = some (.int .i64 x) := by
  obtain rfl | rfl : k = 0 ∨ k = 1 := by omega
  · exact ⟨v0, by simp⟩
  · exact ⟨v1, by simp⟩

end Go.Proofs.YtkgblkbgebpejaaGreatDoor

namespace Go.Proofs.YtkgblkbgebpejaaGreatDoor
open Go.RowKit
set_option linter.unusedSimpArgs false
set_option linter.unusedVariables false
attribute [local go_sem] World.cell?_alloc_some

end Go.Proofs.YtkgblkbgebpejaaGreatDoor
