/- Value.Set where a step's fault is set. -/
import Derived.Test.YtkgblkbgebpejaaGreatDoorVtIas
import Derived.Test.YtkgblkbgebpejaaGreatDoorVtTle
import Derived.Test.YtkgblkbgebpejaaGreatDoorVtTmt
import Derived.Test.YtkgblkbgebpejaaGreatDoorVtDpr
import Derived.Test.YtkgblkbgebpejaaGreatDoorVtRpp
namespace Go.Proofs.YtkgblkbgebpejaaGreatDoor
open Go.RowKit Go.Extern.Stop Go.Stop Go.Extern
set_option linter.unusedSimpArgs false
set_option linter.unusedVariables false

theorem lit0 (a b : Value) (h1 : (#[a, b] : Array Value).size = 2) (h2 : 0 < 2) : Array.getLit #[a, b] 0 h1 h2 = a := rfl
theorem lit1 (a b : Value) (h1 : (#[a, b] : Array Value).size = 2) (h2 : 1 < 2) : Array.getLit #[a, b] 1 h1 h2 = b := rfl
theorem asSize (w : World) : (sizeOf 67).run Tryz.prog w = .ok 2 w := by kernel_rfl
/-- Set: the two cells of a fault's variable become what the Value's own variable holds. -/
theorem asSetF (ta tb : Nat) (n : Int) (y : Value) (c d : Value) (W : World) (hne : tb ≠ ta)
    (h0 : W.cell? ⟨tb, 0, none⟩ = some (.int .i64 n)) (h1 : W.cell? ⟨tb, 1, none⟩ = some (.iface 189 y))
    (t0 : W.cell? ⟨ta, 0, none⟩ = some c) (t1 : W.cell? ⟨ta, 1, none⟩ = some d) (f0 : W.frozen? ⟨ta, 0, none⟩ = false) (f1 : W.frozen? ⟨ta, 1, none⟩ = false) :
    (ReflectliteValue.set #[.agg #[.pointer (some ⟨3, 67, none⟩), .pointer (some ⟨ta, 0, none⟩), .int .u64 409], .agg #[.pointer (some ⟨3, 67, none⟩), .pointer (some ⟨tb, 0, none⟩), .int .u64 153]]).run Tryz.prog W
      = .ok (.tuple #[]) ((W.setCell ⟨ta, 0, none⟩ (.int .i64 n)).setCell ⟨ta, 1, none⟩ (.iface 189 y)) := by
  rw [show ReflectliteValue.set #[.agg #[.pointer (some ⟨3, 67, none⟩), .pointer (some ⟨ta, 0, none⟩), .int .u64 409], .agg #[.pointer (some ⟨3, 67, none⟩), .pointer (some ⟨tb, 0, none⟩), .int .u64 153]] = _ from by delta ReflectliteValue.set ReflectliteValue.set.match_3; exact rfl]
  simp only [lit0, lit1]
  rw [dif_pos (by rfl)]
  simp only [Sem.run_bind, asPartsFa, asPartsF, Result.andThen]
  simp [ReflectliteValue.flagAddr, loadVar, isAgg, underlying, Tryz.underlying67, h0, h1, Result.andThen, asDirect, storeVar, Value.cells, storeCells, Addr.add, asSize, loadCells, loadCellsFrom]
  rw [run_store Tryz.prog W ⟨ta, 0, none⟩ _ _ (by rfl)]
  simp [t0, f0]
  rw [run_store Tryz.prog _ ⟨ta, 1, none⟩ _ _ (by rfl)]
  have e1 : (W.setCell ⟨ta, 0, none⟩ (.int .i64 n)).cell? ⟨ta, 1, none⟩ = some d := by rw [World.cell?_setCell_other _ _ _ _ (by simp)]; exact t1
  simp [e1, f1]
end Go.Proofs.YtkgblkbgebpejaaGreatDoor

namespace Go.Proofs.YtkgblkbgebpejaaGreatDoor
open Go.RowKit
set_option linter.unusedSimpArgs false
set_option linter.unusedVariables false
attribute [local go_sem] World.cell?_alloc_some

def movTo (zs : List Int) (ls : List (Int × Int)) (k : Nat) : List (Int × Int) := (List.range k).foldl (fun o i => o.set (zs.getD i 0).toNat (ls.getD i (0, 0))) (List.replicate ls.length (0, 0))
def movL (zs : List Int) (ls : List (Int × Int)) : List (Int × Int) := movTo zs ls ls.length
end Go.Proofs.YtkgblkbgebpejaaGreatDoor

namespace Go.Proofs.YtkgblkbgebpejaaGreatDoor
open Go.RowKit
set_option linter.unusedSimpArgs false
set_option linter.unusedVariables false
attribute [local go_sem] World.cell?_alloc_some

/-- What comes of a program that is turned. -/
def TpPost (w : World) (ok : Bool) (ls : List (Int × Int)) (d : Nat) (T : Tr d) (e : Ending) (w' : World) : Prop := ∃ lv sv b1 b2, e = .returned (.tuple #[.agg #[lv, sv], .bool ok]) ∧ Below w.heap.size w w' ∧ LOwn w' lv ls b1 ∧ Own w' d sv T b2 ∧ (∀ b ∈ b1 ++ b2, w.heap.size ≤ b ∧ b < w'.heap.size) ∧ b2.Nodup ∧ ∀ b ∈ b1, b ∉ b2
theorem own_noT (w : World) : ∀ d : Nat, Own w d (.slice none 0 0) (noT d) []
  | 0 => ⟨⟨_, _, rfl⟩, rfl⟩
  | d + 1 => .inl ⟨rfl, ⟨_, _, rfl, by unfold maxLen; omega⟩, rfl⟩
theorem TpPost.none {w w' : World} {ls : List (Int × Int)} {d : Nat} {T : Tr d} {ok : Bool} (hok : ok = false) (hl : ls = []) (hT : T = noT d) (hb : Below w.heap.size w w') : TpPost w ok ls d T (.returned (.tuple #[.agg #[.slice none 0 0, .slice none 0 0], .bool false])) w' := by
  subst hok hl hT
  exact ⟨_, _, [], [], rfl, hb, .inl ⟨rfl, ⟨_, _, rfl, by unfold maxLen; omega⟩, rfl⟩, own_noT _ _, by simp, by simp, by simp⟩
def tpOk (zs : List Int) (ls : List (Int × Int)) (d : Nat) (T : Tr d) : Bool := progB ls d T && rowB zs 3
def tpL (zs : List Int) (ls : List (Int × Int)) (d : Nat) (T : Tr d) : List (Int × Int) := if tpOk zs ls d T then turnLs zs ls else []
def tpT (zs : List Int) (ls : List (Int × Int)) (d : Nat) (T : Tr d) : Tr d := if tpOk zs ls d T then mapT (hostF zs) d T else noT d
def tvOk (zs : List Int) (ls : List (Int × Int)) (d : Nat) (T : Tr d) : Bool := progB ls d T && rowB zs ls.length
def tvL (zs : List Int) (ls : List (Int × Int)) (d : Nat) (T : Tr d) : List (Int × Int) := if tvOk zs ls d T then movL zs ls else []
def tvT (zs : List Int) (ls : List (Int × Int)) (d : Nat) (T : Tr d) : Tr d := if tvOk zs ls d T then mapT (varF zs) d T else noT d
theorem progB4 {ls : List (Int × Int)} {d : Nat} {T : Tr d} (h : progB ls d T = true) : ls.length ≤ 4 ∧ labsB ls = true ∧ stB ls.length d 3 T = true ∧ cnt d T ≤ 8 := by
  unfold progB at h
  simp only [Bool.and_eq_true, decide_eq_true_eq] at h
  exact ⟨h.1, h.2.1, h.2.2.1, h.2.2.2⟩
end Go.Proofs.YtkgblkbgebpejaaGreatDoor
