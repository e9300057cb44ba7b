/- Numbers of a program's variables. -/
import Derived.Test.YtkgblkbgebpejaaGreatDoorVtRwx
import Derived.Test.YtkgblkbgebpejaaGreatDoorVtImp
import Derived.Test.YtkgblkbgebpejaaGreatDoorVtCpy
import Derived.Test.YtkgblkbgebpejaaGreatDoorVtPcx
import Derived.Test.YtkgblkbgebpejaaGreatDoorVtSpx
import Derived.Test.YtkgblkbgebpejaaGreatDoorVtDrx
namespace Go.Proofs.YtkgblkbgebpejaaGreatDoor
open Go.RowKit
set_option linter.unusedSimpArgs false
set_option linter.unusedVariables false
attribute [local go_sem] World.cell?_alloc_some

def tenB (zs : List Int) : Bool := zs.all fun z => vIn 10 z
def numsB (ls : List (Int × Int)) (d : Nat) (T : Tr d) (zs : List Int) : Bool := progB ls d T && (decide (zs.length = ls.length) && tenB zs)
end Go.Proofs.YtkgblkbgebpejaaGreatDoor

namespace Go.Proofs.YtkgblkbgebpejaaGreatDoor
open Go.RowKit
set_option linter.unusedSimpArgs false
set_option linter.unusedVariables false
attribute [local go_sem] World.cell?_alloc_some

/-- The numbers that were told to a host. -/
def toH (host : Int) (ss : List (Int × Int)) : List Int := (ss.filter fun x => x.1 = host).map (·.2)
theorem rowg_slice {w : World} {base : Nat} {e : TypeId} {sz : Nat} {v : Value} {n : Nat} {xs : List Value} (h : w.ownsRow base e sz v n xs) : ∃ a c, v = .slice a n c := by
  obtain ⟨_, ⟨rfl, rfl⟩ | ⟨g, cap, cur, rfl, _⟩⟩ := h
  · exact ⟨_, _, rfl⟩
  · exact ⟨_, _, rfl⟩
theorem cells_new1 (w : World) (u : Value) (T : TypeId) (k : Nat) (hk : k = w.heap.size) : ∀ j v, [u][j]? = some v → (w.alloc (.cells #[u] T)).cell? ((⟨k, 0, none⟩ : Addr).add j) = some v := by
  subst hk
  intro j v hv
  match j, hv with
  | 0, hv => cases hv; simp [Addr.add]
  | (j + 1), hv => simp at hv

end Go.Proofs.YtkgblkbgebpejaaGreatDoor

namespace Go.Proofs.YtkgblkbgebpejaaGreatDoor
open Go.RowKit
set_option linter.unusedSimpArgs false
set_option linter.unusedVariables false
attribute [local go_sem] World.cell?_alloc_some

def setB (vs : List Bool) (x : Int) : Bool := vIn vs.length x && vs.getD x.toNat false
/-- All that was set of the variables of which there is a true. -/
def setV (vs : List Bool) (ws : List (Int × Int)) : List (Int × Int) := ws.filter fun x => setB vs x.1
def pcells (ls : List (Int × Int)) : List Value := ls.flatMap fun a => [.int .i64 a.1, .int .i64 a.2]
theorem pcells_get : ∀ (ls : List (Int × Int)) (i : Nat) (hi : i < ls.length), (pcells ls)[i * 2]? = some (.int .i64 ls[i].1) ∧ (pcells ls)[i * 2 + 1]? = some (.int .i64 ls[i].2)
  | a :: ls, 0, _ => ⟨rfl, rfl⟩
  | a :: ls, i + 1, hi => by
    have := pcells_get ls i (by simpa using hi)
    have e : pcells (a :: ls) = [.int .i64 a.1, .int .i64 a.2] ++ pcells ls := rfl
    rw [e, List.getElem?_append_right (by simp; omega), List.getElem?_append_right (by simp; omega)]
    simpa [show (i + 1) * 2 - 2 = i * 2 by omega, show (i + 1) * 2 + 1 - 2 = i * 2 + 1 by omega] using this
theorem pcells_app (ls : List (Int × Int)) (a : Int × Int) : pcells (ls ++ [a]) = pcells ls ++ [.int .i64 a.1, .int .i64 a.2] := by simp [pcells]
theorem cells_new2 (w : World) (u v : Value) (T : TypeId) (k : Nat) (hk : k = w.heap.size) : ∀ j x, [u, v][j]? = some x → (w.alloc (.cells #[u, v] T)).cell? ((⟨k, 0, none⟩ : Addr).add j) = some x := by
  subst hk
  intro j x hv
  match j, hv with
  | 0, hv => cases hv; simp [Addr.add]
  | 1, hv => cases hv; simp [Addr.add]
  | (j + 2), hv => simp at hv

end Go.Proofs.YtkgblkbgebpejaaGreatDoor

namespace Go.Proofs.YtkgblkbgebpejaaGreatDoor
open Go.RowKit
set_option linter.unusedSimpArgs false
set_option linter.unusedVariables false

theorem Rdr.alloc {w : World} {r p : Nat} (h : Rdr w r p) (o : Obj) : Rdr (w.alloc o) r p := h.below ((Below.refl _ _).alloc (Nat.le_refl _) o)

/-- Two cells of a block that may be written. -/
def Pair (x : World) (b : Nat) (v0 v1 : Value) : Prop := x.cell? ⟨b, 0, none⟩ = some v0 ∧ x.cell? ⟨b, 1, none⟩ = some v1 ∧ x.frozen? ⟨b, 0, none⟩ = false ∧ x.frozen? ⟨b, 1, none⟩ = false
theorem Pair.new (x : World) (a b : Int) (t : TypeId) : Pair (x.alloc (.cells #[.int .i64 a, .int .i64 b] t)) x.heap.size (.int .i64 a) (.int .i64 b) := ⟨by simp [go_sem], by simp [go_sem], by simp [go_sem], by simp [go_sem]⟩
theorem Pair.oth {r : Nat} {x x' : World} {b : Nat} {v0 v1 : Value} (h : Pair x b v0 v1) (k : Oth r x x') (hb : b ≠ r) : Pair x' b v0 v1 :=
  ⟨k.cell hb h.1, k.cell hb h.2.1, k.frozen hb h.1 h.2.2.1, k.frozen hb h.2.1 h.2.2.2⟩
theorem Pair.below {x x' : World} {b : Nat} {v0 v1 : Value} (h : Pair x b v0 v1) (k : Below x.heap.size x x') : Pair x' b v0 v1 :=
  ⟨cell_later k h.1, cell_later k h.2.1, frozen_later k h.1 h.2.2.1, frozen_later k h.2.1 h.2.2.2⟩
theorem Pair.alloc {x : World} {b : Nat} {v0 v1 : Value} (h : Pair x b v0 v1) (o : Obj) : Pair (x.alloc o) b v0 v1 := h.below ((Below.refl _ _).alloc (Nat.le_refl _) o)
theorem Pair.lt {x : World} {b : Nat} {v0 v1 : Value} (h : Pair x b v0 v1) : b < x.heap.size := World.block_lt_of_cell? _ _ h.1

end Go.Proofs.YtkgblkbgebpejaaGreatDoor
