/- Numbers of a program's variables. -/
import Derived.Test.YtkgblkbgebpejaaGreatDoorRwx
import Derived.Test.YtkgblkbgebpejaaGreatDoorImp
namespace Go.Proofs.YtkgblkbgebpejaaGreatDoor
open Go.RowKit
set_option linter.unusedSimpArgs false
set_option linter.unusedVariables false
attribute [local go_sem] World.cell?_alloc_some

def tenB (zs : List Int) : Bool := zs.all fun z => vIn 10 z
def numsB (ls : List (Int × Int)) (d : Nat) (T : Tr d) (zs : List Int) : Bool := progB ls d T && (decide (zs.length = ls.length) && tenB zs)
theorem ten_take (zs : List Int) (i : Nat) (hi : i < zs.length) : tenB (zs.take (i + 1)) = (tenB (zs.take i) && vIn 10 zs[i]) := by
  unfold tenB; rw [List.take_succ_eq_append_getElem hi, List.all_append]; simp
theorem ten_false (zs : List Int) (i : Nat) (h : tenB (zs.take i) = false) : tenB zs = false := by
  have e : tenB zs = (tenB (zs.take i) && tenB (zs.drop i)) := by
    unfold tenB; rw [← List.all_append, List.take_append_drop]
  rw [e, h]; rfl

end Go.Proofs.YtkgblkbgebpejaaGreatDoor
