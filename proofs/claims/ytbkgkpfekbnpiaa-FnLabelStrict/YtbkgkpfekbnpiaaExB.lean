/- The exact laws of LabelFlows, LabelBoth and LabelEither, walked. -/
import Derived.Test.YtbkgkpfekbnpiaaBotI
import Derived.Test.YtbkgkpfekbnpiaaBotJ
import Derived.Test.YtbkgkpfekbnpiaaBotS
import Derived.Test.YtbkgkpfekbnpiaaExOk
import Derived.Deep.DeepCutAuto
namespace Go.Proofs.Ytbkgkpfekbnpiaa
open Go.RowKit
set_option linter.unusedSimpArgs false
set_option linter.unusedVariables false

attribute [local go_sem ↓] Go.wp_at_zero Go.wp_at_succ

theorem below_then2 {a w w1 : World} (k : Below w.heap.size w w1) (h : Below a.heap.size a w) : Below a.heap.size a w1 := h.trans (k.mono h.size)
theorem cell_alloc {w : World} {a : Addr} {v : Value} {o : Obj} (h : w.cell? a = some v) : (w.alloc o).cell? a = some v := by
  rw [World.cell?_alloc_some _ _ _ (by rw [h]; rfl), h]
theorem cell_realloc {w : World} {a : Addr} {v : Value} {o o' : Obj} (h : (w.alloc o).cell? a = some v) (hne : a.block ≠ w.heap.size) : (w.alloc o').cell? a = some v := by
  rw [World.cell?_alloc_old w o a hne] at h
  rw [World.cell?_alloc_old w o' a hne, h]
theorem below_realloc {B : Nat} {a w : World} {o o' : Obj} (h : Below B a (w.alloc o)) (hB : B ≤ w.heap.size) : Below B a (w.alloc o') := by
  refine ⟨h.os, h.tape, h.output, ?_, ?_⟩
  · have := h.size
    simp at this ⊢
    exact this
  · intro k hk
    rw [Below.heap_alloc _ _ _ (by omega), ← Below.heap_alloc w o k (by omega)]
    exact h.block k hk
theorem cell_set {w : World} {p a : Addr} {v u : Value} (h : w.cell? a = some u) (hne : p.block ≠ a.block) : (w.setCell p v).cell? a = some u := by
  rw [World.cell?_setCell_far _ _ _ _ hne, h]
theorem S4_later {N : Nat} {w0 : World} {v0 v1 v2 v3 : Value} {w w' : World} (hb : Below w.heap.size w w') (h : w.cell? ⟨N, 0, none⟩ = some v0 ∧ w.cell? ⟨N, 1, none⟩ = some v1 ∧ w.cell? ⟨N + 1, 0, none⟩ = some v2 ∧ w.cell? ⟨N + 1, 1, none⟩ = some v3 ∧ N + 1 < w.heap.size ∧ Below N w0 w) : w'.cell? ⟨N, 0, none⟩ = some v0 ∧ w'.cell? ⟨N, 1, none⟩ = some v1 ∧ w'.cell? ⟨N + 1, 0, none⟩ = some v2 ∧ w'.cell? ⟨N + 1, 1, none⟩ = some v3 ∧ N + 1 < w'.heap.size ∧ Below N w0 w' :=
  ⟨cell_later hb h.1, cell_later hb h.2.1, cell_later hb h.2.2.1, cell_later hb h.2.2.2.1, Nat.lt_of_lt_of_le h.2.2.2.2.1 hb.size, h.2.2.2.2.2.trans (hb.mono (by have := h.2.2.2.2.1; omega))⟩
theorem S4_drew {N : Nat} {w0 : World} {v0 v1 v2 v3 : Value} {w : World} (h : w.cell? ⟨N, 0, none⟩ = some v0 ∧ w.cell? ⟨N, 1, none⟩ = some v1 ∧ w.cell? ⟨N + 1, 0, none⟩ = some v2 ∧ w.cell? ⟨N + 1, 1, none⟩ = some v3 ∧ N + 1 < w.heap.size ∧ Below N w0 w) : w.drew.cell? ⟨N, 0, none⟩ = some v0 ∧ w.drew.cell? ⟨N, 1, none⟩ = some v1 ∧ w.drew.cell? ⟨N + 1, 0, none⟩ = some v2 ∧ w.drew.cell? ⟨N + 1, 1, none⟩ = some v3 ∧ N + 1 < w.drew.heap.size ∧ Below N w0 w.drew := ⟨h.1, h.2.1, h.2.2.1, h.2.2.2.1, h.2.2.2.2.1, h.2.2.2.2.2.drew⟩
theorem S4_alloc {N : Nat} {w0 : World} {v0 v1 v2 v3 : Value} {w : World} {o : Obj} (h : w.cell? ⟨N, 0, none⟩ = some v0 ∧ w.cell? ⟨N, 1, none⟩ = some v1 ∧ w.cell? ⟨N + 1, 0, none⟩ = some v2 ∧ w.cell? ⟨N + 1, 1, none⟩ = some v3 ∧ N + 1 < w.heap.size ∧ Below N w0 w) : (w.alloc o).cell? ⟨N, 0, none⟩ = some v0 ∧ (w.alloc o).cell? ⟨N, 1, none⟩ = some v1 ∧ (w.alloc o).cell? ⟨N + 1, 0, none⟩ = some v2 ∧ (w.alloc o).cell? ⟨N + 1, 1, none⟩ = some v3 ∧ N + 1 < (w.alloc o).heap.size ∧ Below N w0 (w.alloc o) :=
  ⟨cell_alloc h.1, cell_alloc h.2.1, cell_alloc h.2.2.1, cell_alloc h.2.2.2.1, by have := h.2.2.2.2.1; simp; omega, h.2.2.2.2.2.alloc (by have := h.2.2.2.2.1; omega) _⟩
theorem S4_realloc {N : Nat} {w0 : World} {v0 v1 v2 v3 : Value} {w : World} {o o' : Obj} (hn : N + 1 < w.heap.size) (h : (w.alloc o).cell? ⟨N, 0, none⟩ = some v0 ∧ (w.alloc o).cell? ⟨N, 1, none⟩ = some v1 ∧ (w.alloc o).cell? ⟨N + 1, 0, none⟩ = some v2 ∧ (w.alloc o).cell? ⟨N + 1, 1, none⟩ = some v3 ∧ N + 1 < (w.alloc o).heap.size ∧ Below N w0 (w.alloc o)) : (w.alloc o').cell? ⟨N, 0, none⟩ = some v0 ∧ (w.alloc o').cell? ⟨N, 1, none⟩ = some v1 ∧ (w.alloc o').cell? ⟨N + 1, 0, none⟩ = some v2 ∧ (w.alloc o').cell? ⟨N + 1, 1, none⟩ = some v3 ∧ N + 1 < (w.alloc o').heap.size ∧ Below N w0 (w.alloc o') :=
  ⟨cell_realloc h.1 (by simp; omega), cell_realloc h.2.1 (by simp; omega), cell_realloc h.2.2.1 (by simp; omega), cell_realloc h.2.2.2.1 (by simp; omega), by simp; omega, below_realloc h.2.2.2.2.2 (by omega)⟩
theorem S4_set {N : Nat} {w0 : World} {v0 v1 v2 v3 : Value} {w : World} {b : Nat} {p q v u} (hn : N + 1 < b) (h : w.cell? ⟨N, 0, none⟩ = some v0 ∧ w.cell? ⟨N, 1, none⟩ = some v1 ∧ w.cell? ⟨N + 1, 0, none⟩ = some v2 ∧ w.cell? ⟨N + 1, 1, none⟩ = some v3 ∧ N + 1 < w.heap.size ∧ Below N w0 w) : ((w.setCell ⟨b, p, none⟩ v).setCell ⟨b, q, none⟩ u).cell? ⟨N, 0, none⟩ = some v0 ∧ ((w.setCell ⟨b, p, none⟩ v).setCell ⟨b, q, none⟩ u).cell? ⟨N, 1, none⟩ = some v1 ∧ ((w.setCell ⟨b, p, none⟩ v).setCell ⟨b, q, none⟩ u).cell? ⟨N + 1, 0, none⟩ = some v2 ∧ ((w.setCell ⟨b, p, none⟩ v).setCell ⟨b, q, none⟩ u).cell? ⟨N + 1, 1, none⟩ = some v3 ∧ N + 1 < ((w.setCell ⟨b, p, none⟩ v).setCell ⟨b, q, none⟩ u).heap.size ∧ Below N w0 ((w.setCell ⟨b, p, none⟩ v).setCell ⟨b, q, none⟩ u) :=
  ⟨cell_set (cell_set h.1 (by simp; omega)) (by simp; omega), cell_set (cell_set h.2.1 (by simp; omega)) (by simp; omega), cell_set (cell_set h.2.2.1 (by simp; omega)) (by simp; omega), cell_set (cell_set h.2.2.2.1 (by simp; omega)) (by simp; omega), by simpa using h.2.2.2.2.1, (h.2.2.2.2.2.setCell (by simp; omega) _).setCell (by simp; omega) _⟩
theorem S6_later {b N : Nat} {w0 : World} {u0 u1 v0 v1 v2 v3 : Value} {w w' : World} (hb : Below w.heap.size w w') (h : w.cell? ⟨b, 0, none⟩ = some u0 ∧ w.cell? ⟨b, 1, none⟩ = some u1 ∧ b < w.heap.size ∧ w.cell? ⟨N, 0, none⟩ = some v0 ∧ w.cell? ⟨N, 1, none⟩ = some v1 ∧ w.cell? ⟨N + 1, 0, none⟩ = some v2 ∧ w.cell? ⟨N + 1, 1, none⟩ = some v3 ∧ N + 1 < w.heap.size ∧ Below N w0 w) : w'.cell? ⟨b, 0, none⟩ = some u0 ∧ w'.cell? ⟨b, 1, none⟩ = some u1 ∧ b < w'.heap.size ∧ w'.cell? ⟨N, 0, none⟩ = some v0 ∧ w'.cell? ⟨N, 1, none⟩ = some v1 ∧ w'.cell? ⟨N + 1, 0, none⟩ = some v2 ∧ w'.cell? ⟨N + 1, 1, none⟩ = some v3 ∧ N + 1 < w'.heap.size ∧ Below N w0 w' :=
  ⟨cell_later hb h.1, cell_later hb h.2.1, Nat.lt_of_lt_of_le h.2.2.1 hb.size, S4_later hb h.2.2.2⟩
theorem S6_drew {b N : Nat} {w0 : World} {u0 u1 v0 v1 v2 v3 : Value} {w : World} (h : w.cell? ⟨b, 0, none⟩ = some u0 ∧ w.cell? ⟨b, 1, none⟩ = some u1 ∧ b < w.heap.size ∧ w.cell? ⟨N, 0, none⟩ = some v0 ∧ w.cell? ⟨N, 1, none⟩ = some v1 ∧ w.cell? ⟨N + 1, 0, none⟩ = some v2 ∧ w.cell? ⟨N + 1, 1, none⟩ = some v3 ∧ N + 1 < w.heap.size ∧ Below N w0 w) : w.drew.cell? ⟨b, 0, none⟩ = some u0 ∧ w.drew.cell? ⟨b, 1, none⟩ = some u1 ∧ b < w.drew.heap.size ∧ w.drew.cell? ⟨N, 0, none⟩ = some v0 ∧ w.drew.cell? ⟨N, 1, none⟩ = some v1 ∧ w.drew.cell? ⟨N + 1, 0, none⟩ = some v2 ∧ w.drew.cell? ⟨N + 1, 1, none⟩ = some v3 ∧ N + 1 < w.drew.heap.size ∧ Below N w0 w.drew := ⟨h.1, h.2.1, h.2.2.1, S4_drew h.2.2.2⟩
theorem S6_alloc {b N : Nat} {w0 : World} {u0 u1 v0 v1 v2 v3 : Value} {w : World} {o : Obj} (h : w.cell? ⟨b, 0, none⟩ = some u0 ∧ w.cell? ⟨b, 1, none⟩ = some u1 ∧ b < w.heap.size ∧ w.cell? ⟨N, 0, none⟩ = some v0 ∧ w.cell? ⟨N, 1, none⟩ = some v1 ∧ w.cell? ⟨N + 1, 0, none⟩ = some v2 ∧ w.cell? ⟨N + 1, 1, none⟩ = some v3 ∧ N + 1 < w.heap.size ∧ Below N w0 w) : (w.alloc o).cell? ⟨b, 0, none⟩ = some u0 ∧ (w.alloc o).cell? ⟨b, 1, none⟩ = some u1 ∧ b < (w.alloc o).heap.size ∧ (w.alloc o).cell? ⟨N, 0, none⟩ = some v0 ∧ (w.alloc o).cell? ⟨N, 1, none⟩ = some v1 ∧ (w.alloc o).cell? ⟨N + 1, 0, none⟩ = some v2 ∧ (w.alloc o).cell? ⟨N + 1, 1, none⟩ = some v3 ∧ N + 1 < (w.alloc o).heap.size ∧ Below N w0 (w.alloc o) :=
  ⟨cell_alloc h.1, cell_alloc h.2.1, by have := h.2.2.1; simp; omega, S4_alloc h.2.2.2⟩
theorem S6_realloc {b N : Nat} {w0 : World} {u0 u1 v0 v1 v2 v3 : Value} {w : World} {o o' : Obj} (hb : b < w.heap.size) (hn : N + 1 < w.heap.size) (h : (w.alloc o).cell? ⟨b, 0, none⟩ = some u0 ∧ (w.alloc o).cell? ⟨b, 1, none⟩ = some u1 ∧ b < (w.alloc o).heap.size ∧ (w.alloc o).cell? ⟨N, 0, none⟩ = some v0 ∧ (w.alloc o).cell? ⟨N, 1, none⟩ = some v1 ∧ (w.alloc o).cell? ⟨N + 1, 0, none⟩ = some v2 ∧ (w.alloc o).cell? ⟨N + 1, 1, none⟩ = some v3 ∧ N + 1 < (w.alloc o).heap.size ∧ Below N w0 (w.alloc o)) : (w.alloc o').cell? ⟨b, 0, none⟩ = some u0 ∧ (w.alloc o').cell? ⟨b, 1, none⟩ = some u1 ∧ b < (w.alloc o').heap.size ∧ (w.alloc o').cell? ⟨N, 0, none⟩ = some v0 ∧ (w.alloc o').cell? ⟨N, 1, none⟩ = some v1 ∧ (w.alloc o').cell? ⟨N + 1, 0, none⟩ = some v2 ∧ (w.alloc o').cell? ⟨N + 1, 1, none⟩ = some v3 ∧ N + 1 < (w.alloc o').heap.size ∧ Below N w0 (w.alloc o') :=
  ⟨cell_realloc h.1 (by simp; omega), cell_realloc h.2.1 (by simp; omega), by simp; omega, S4_realloc hn h.2.2.2⟩
theorem S6_set {b N : Nat} {w0 : World} {u0 u1 v0 v1 v2 v3 : Value} {w : World} {c : Nat} {p q v u} (hb : b < c) (hn : N + 1 < c) (h : w.cell? ⟨b, 0, none⟩ = some u0 ∧ w.cell? ⟨b, 1, none⟩ = some u1 ∧ b < w.heap.size ∧ w.cell? ⟨N, 0, none⟩ = some v0 ∧ w.cell? ⟨N, 1, none⟩ = some v1 ∧ w.cell? ⟨N + 1, 0, none⟩ = some v2 ∧ w.cell? ⟨N + 1, 1, none⟩ = some v3 ∧ N + 1 < w.heap.size ∧ Below N w0 w) : ((w.setCell ⟨c, p, none⟩ v).setCell ⟨c, q, none⟩ u).cell? ⟨b, 0, none⟩ = some u0 ∧ ((w.setCell ⟨c, p, none⟩ v).setCell ⟨c, q, none⟩ u).cell? ⟨b, 1, none⟩ = some u1 ∧ b < ((w.setCell ⟨c, p, none⟩ v).setCell ⟨c, q, none⟩ u).heap.size ∧ ((w.setCell ⟨c, p, none⟩ v).setCell ⟨c, q, none⟩ u).cell? ⟨N, 0, none⟩ = some v0 ∧ ((w.setCell ⟨c, p, none⟩ v).setCell ⟨c, q, none⟩ u).cell? ⟨N, 1, none⟩ = some v1 ∧ ((w.setCell ⟨c, p, none⟩ v).setCell ⟨c, q, none⟩ u).cell? ⟨N + 1, 0, none⟩ = some v2 ∧ ((w.setCell ⟨c, p, none⟩ v).setCell ⟨c, q, none⟩ u).cell? ⟨N + 1, 1, none⟩ = some v3 ∧ N + 1 < ((w.setCell ⟨c, p, none⟩ v).setCell ⟨c, q, none⟩ u).heap.size ∧ Below N w0 ((w.setCell ⟨c, p, none⟩ v).setCell ⟨c, q, none⟩ u) :=
  ⟨cell_set (cell_set h.1 (by simp; omega)) (by simp; omega), cell_set (cell_set h.2.1 (by simp; omega)) (by simp; omega), by simpa using h.2.2.1, S4_set hn h.2.2.2⟩
theorem set_two0 {w : World} {b : Nat} {v0 v1 x y : Value} (h0 : w.cell? ⟨b, 0, none⟩ = some x) (h1 : w.cell? ⟨b, 1, none⟩ = some y) : ((w.setCell ⟨b, 0, none⟩ v0).setCell ⟨b, 1, none⟩ v1).cell? ⟨b, 0, none⟩ = some v0 := by
  rw [World.cell?_setCell_other _ _ _ _ (by simp), World.cell?_setCell_same _ _ _ h0]
theorem set_two1 {w : World} {b : Nat} {v0 v1 x y : Value} (h0 : w.cell? ⟨b, 0, none⟩ = some x) (h1 : w.cell? ⟨b, 1, none⟩ = some y) : ((w.setCell ⟨b, 0, none⟩ v0).setCell ⟨b, 1, none⟩ v1).cell? ⟨b, 1, none⟩ = some v1 := by
  rw [World.cell?_setCell_same _ _ _ ((World.cell?_setCell_other _ _ _ _ (by simp)).trans h1)]
theorem newcells {X w' : World} {T : TypeId} (hb : Below (X.alloc (.cells #[.int .i64 0, .int .i64 0] T)).heap.size (X.alloc (.cells #[.int .i64 0, .int .i64 0] T)) w') :
    w'.cell? ⟨X.heap.size, 0, none⟩ = some (cellAt w' ⟨X.heap.size, 0, none⟩) ∧ w'.cell? ⟨X.heap.size, 1, none⟩ = some (cellAt w' ⟨X.heap.size, 1, none⟩) ∧ w'.frozen? ⟨X.heap.size, 0, none⟩ = false ∧ w'.frozen? ⟨X.heap.size, 1, none⟩ = false := by
  have h0 : (X.alloc (.cells #[.int .i64 0, .int .i64 0] T)).cell? ⟨X.heap.size, 0, none⟩ = some (.int .i64 0) := by simp [go_sem]
  have h1 : (X.alloc (.cells #[.int .i64 0, .int .i64 0] T)).cell? ⟨X.heap.size, 1, none⟩ = some (.int .i64 0) := by simp [go_sem]
  have f0 : (X.alloc (.cells #[.int .i64 0, .int .i64 0] T)).frozen? ⟨X.heap.size, 0, none⟩ = false := by simp [go_sem]
  have f1 : (X.alloc (.cells #[.int .i64 0, .int .i64 0] T)).frozen? ⟨X.heap.size, 1, none⟩ = false := by simp [go_sem]
  exact ⟨cellAt_of (by rw [cell_later hb h0]; rfl), cellAt_of (by rw [cell_later hb h1]; rfl), frozen_later hb h0 f0, frozen_later hb h1 f1⟩
theorem newcellsD {X w' : World} {T : TypeId} (hb : Below (X.alloc (.cells #[.int .i64 0, .int .i64 0] T)).drew.heap.size (X.alloc (.cells #[.int .i64 0, .int .i64 0] T)).drew w') :
    w'.cell? ⟨X.heap.size, 0, none⟩ = some (cellAt w' ⟨X.heap.size, 0, none⟩) ∧ w'.cell? ⟨X.heap.size, 1, none⟩ = some (cellAt w' ⟨X.heap.size, 1, none⟩) ∧ w'.frozen? ⟨X.heap.size, 0, none⟩ = false ∧ w'.frozen? ⟨X.heap.size, 1, none⟩ = false :=
  newcells ⟨hb.os, hb.tape, hb.output, hb.size, hb.block⟩
theorem carry4 {w w' : World} {b : Nat} (hb : Below w.heap.size w w') (h0 : w.cell? ⟨b, 0, none⟩ = some (cellAt w ⟨b, 0, none⟩)) (h1 : w.cell? ⟨b, 1, none⟩ = some (cellAt w ⟨b, 1, none⟩)) (f0 : w.frozen? ⟨b, 0, none⟩ = false) (f1 : w.frozen? ⟨b, 1, none⟩ = false) :
    w'.cell? ⟨b, 0, none⟩ = some (cellAt w' ⟨b, 0, none⟩) ∧ w'.cell? ⟨b, 1, none⟩ = some (cellAt w' ⟨b, 1, none⟩) ∧ w'.frozen? ⟨b, 0, none⟩ = false ∧ w'.frozen? ⟨b, 1, none⟩ = false :=
  ⟨at_later hb h0, at_later hb h1, frozen_later hb h0 f0, frozen_later hb h1 f1⟩

def eqB (ak at' bk bt : Int) : Bool := ak == bk && at' == bt
theorem eqB_self (a b : Int) : eqB a b a b = true := by simp [eqB]
theorem eqLabel_any (ak at' bk bt : Int) (w : World) :
    Calls Try.prog 36 #[.agg #[.int .i64 ak, .int .i64 at'], .agg #[.int .i64 bk, .int .i64 bt]] w fun e w' => e = .returned (.bool (eqB ak at' bk bt)) ∧ Below w.heap.size w w' := by
  unfold eqB
  cases h1 : (ak == bk)
  · have h2 : (ak != bk) = true := by simp [bne, h1]
    go_enter Try.func36, Try.ntmps36
    go_wp2
    go_ret
    refine ⟨rfl, ?_⟩
    repeat' (first | exact Below.refl _ _ | assumption | (refine Below.drew ?_) | (refine Below.then ?_ (by assumption) ?_) | (refine Below.alloc ?_ ?_ _) | (refine Below.setCell ?_ ?_ _) | (simp; done) | (simp at *; omega) | omega)
  · have h2 : (ak != bk) = false := by simp [bne, h1]
    cases h3 : (at' == bt)
    · have h4 : (at' != bt) = true := by simp [bne, h3]
      go_enter Try.func36, Try.ntmps36
      go_wp2
      go_ret
      refine ⟨rfl, ?_⟩
      repeat' (first | exact Below.refl _ _ | assumption | (refine Below.drew ?_) | (refine Below.then ?_ (by assumption) ?_) | (refine Below.alloc ?_ ?_ _) | (refine Below.setCell ?_ ?_ _) | (simp; done) | (simp at *; omega) | omega)
    · have h4 : (at' != bt) = false := by simp [bne, h3]
      go_enter Try.func36, Try.ntmps36
      go_wp2
      go_ret
      refine ⟨rfl, ?_⟩
      repeat' (first | exact Below.refl _ _ | assumption | (refine Below.drew ?_) | (refine Below.then ?_ (by assumption) ?_) | (refine Below.alloc ?_ ?_ _) | (refine Below.setCell ?_ ?_ _) | (simp; done) | (simp at *; omega) | omega)

end Go.Proofs.Ytbkgkpfekbnpiaa
