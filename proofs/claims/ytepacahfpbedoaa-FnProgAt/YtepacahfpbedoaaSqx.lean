/- How large an argument is, as the laws count it. -/
import Derived.Test.YtepacahfpbedoaaTre
import Derived.Deep.RegionHeld3
import Derived.Deep.DrawnRows
namespace Go.Proofs.Ytepacahfpbedoaa
open Go.RowKit
set_option linter.unusedSimpArgs false
set_option linter.unusedVariables false

def szR (left : Int) (c : Nat) : Int := if (c : Int) ≤ left then left - c else -1
theorem szR_pos {left : Int} {c : Nat} (h : (c : Int) ≤ left) : szR left c = left - c := if_pos h
theorem szR_neg {left : Int} {c : Nat} (h : ¬ (c : Int) ≤ left) : szR left c = -1 := if_neg h

end Go.Proofs.Ytepacahfpbedoaa

namespace Go.Proofs.Ytepacahfpbedoaa
open Go.RowKit
set_option linter.unusedSimpArgs false
set_option linter.unusedVariables false
attribute [local go_sem ↓] Go.wp_at_zero Go.wp_at_succ
attribute [local go_sem] World.cell?_alloc_some

theorem SQ1 {w wz : World} {b o b' o' : Nat} {p : Pay} {t e t' e' : Value} (h : StepAt wz b o p t e ∧ StepAt wz b' o' p t' e' ∧ Below w.heap.size w wz) : StepAt wz.drew b o p t e ∧ StepAt wz.drew b' o' p t' e' ∧ Below w.heap.size w wz.drew := ⟨h.1, h.2.1, h.2.2.drew⟩
theorem SQ2 {w wz wx : World} {b o b' o' : Nat} {p : Pay} {t e t' e' : Value} (h : StepAt wz b o p t e ∧ StepAt wz b' o' p t' e' ∧ Below w.heap.size w wz) (hb : Below wz.heap.size wz wx) : StepAt wx b o p t e ∧ StepAt wx b' o' p t' e' ∧ Below w.heap.size w wx :=
  ⟨h.1.on (fun _ _ h => cell_later hb h), h.2.1.on (fun _ _ h => cell_later hb h), Below.then h.2.2 hb h.2.2.size⟩
theorem SL1 {w wz : World} {a1 a2 a3 a4 : Addr} {v1 v2 v3 v4 : Value} (h : (wz.cell? a1 = some v1 ∧ wz.cell? a2 = some v2) ∧ (wz.cell? a3 = some v3 ∧ wz.cell? a4 = some v4) ∧ Below w.heap.size w wz) : (wz.drew.cell? a1 = some v1 ∧ wz.drew.cell? a2 = some v2) ∧ (wz.drew.cell? a3 = some v3 ∧ wz.drew.cell? a4 = some v4) ∧ Below w.heap.size w wz.drew := ⟨h.1, h.2.1, h.2.2.drew⟩
theorem SL2 {w wz wx : World} {a1 a2 a3 a4 : Addr} {v1 v2 v3 v4 : Value} (h : (wz.cell? a1 = some v1 ∧ wz.cell? a2 = some v2) ∧ (wz.cell? a3 = some v3 ∧ wz.cell? a4 = some v4) ∧ Below w.heap.size w wz) (hb : Below wz.heap.size wz wx) : (wx.cell? a1 = some v1 ∧ wx.cell? a2 = some v2) ∧ (wx.cell? a3 = some v3 ∧ wx.cell? a4 = some v4) ∧ Below w.heap.size w wx :=
  ⟨⟨cell_later hb h.1.1, cell_later hb h.1.2⟩, ⟨cell_later hb h.2.1.1, cell_later hb h.2.1.2⟩, Below.then h.2.2 hb h.2.2.size⟩

end Go.Proofs.Ytepacahfpbedoaa
