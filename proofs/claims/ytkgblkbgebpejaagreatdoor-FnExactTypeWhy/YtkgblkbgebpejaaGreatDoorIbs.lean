/- Value.Set where a step's fault is set. -/
import Derived.Test.YtkgblkbgebpejaaGreatDoorIas
namespace Go.Proofs.YtkgblkbgebpejaaGreatDoor
open Go.RowKit Go.Extern.Stop Go.Stop Go.Extern
set_option linter.unusedSimpArgs false
set_option linter.unusedVariables false

theorem lit0 (a b : Value) (h1 : (#[a, b] : Array Value).size = 2) (h2 : 0 < 2) : Array.getLit #[a, b] 0 h1 h2 = a := rfl
theorem lit1 (a b : Value) (h1 : (#[a, b] : Array Value).size = 2) (h2 : 1 < 2) : Array.getLit #[a, b] 1 h1 h2 = b := rfl
theorem asSize (w : World) : (sizeOf 67).run Tryz.prog w = .ok 2 w := by kernel_rfl
/-- Set: the two cells of a fault's variable become what the Value's own variable holds. -/
theorem asSetF (ta tb : Nat) (n : Int) (y : Value) (c d : Value) (W : World) (hne : tb ≠ ta)
    (h0 : W.cell? ⟨tb, 0, none⟩ = some (.int .i64 n)) (h1 : W.cell? ⟨tb, 1, none⟩ = some (.iface 189 y))
    (t0 : W.cell? ⟨ta, 0, none⟩ = some c) (t1 : W.cell? ⟨ta, 1, none⟩ = some d) (f0 : W.frozen? ⟨ta, 0, none⟩ = false) (f1 : W.frozen? ⟨ta, 1, none⟩ = false) :
    (ReflectliteValue.set #[.agg #[.pointer (some ⟨3, 67, none⟩), .pointer (some ⟨ta, 0, none⟩), .int .u64 409], .agg #[.pointer (some ⟨3, 67, none⟩), .pointer (some ⟨tb, 0, none⟩), .int .u64 153]]).run Tryz.prog W
      = .ok (.tuple #[]) ((W.setCell ⟨ta, 0, none⟩ (.int .i64 n)).setCell ⟨ta, 1, none⟩ (.iface 189 y)) := by
  rw [show ReflectliteValue.set #[.agg #[.pointer (some ⟨3, 67, none⟩), .pointer (some ⟨ta, 0, none⟩), .int .u64 409], .agg #[.pointer (some ⟨3, 67, none⟩), .pointer (some ⟨tb, 0, none⟩), .int .u64 153]] = _ from by delta ReflectliteValue.set ReflectliteValue.set.match_3; exact rfl]
  simp only [lit0, lit1]
  rw [dif_pos (by rfl)]
  simp only [Sem.run_bind, asPartsFa, asPartsF, Result.andThen]
  simp [ReflectliteValue.flagAddr, loadVar, isAgg, underlying, Tryz.underlying67, h0, h1, Result.andThen, asDirect, storeVar, Value.cells, storeCells, Addr.add, asSize, loadCells, loadCellsFrom]
  rw [run_store Tryz.prog W ⟨ta, 0, none⟩ _ _ (by rfl)]
  simp [t0, f0]
  rw [run_store Tryz.prog _ ⟨ta, 1, none⟩ _ _ (by rfl)]
  have e1 : (W.setCell ⟨ta, 0, none⟩ (.int .i64 n)).cell? ⟨ta, 1, none⟩ = some d := by rw [World.cell?_setCell_other _ _ _ _ (by simp)]; exact t1
  simp [e1, f1]
end Go.Proofs.YtkgblkbgebpejaaGreatDoor
