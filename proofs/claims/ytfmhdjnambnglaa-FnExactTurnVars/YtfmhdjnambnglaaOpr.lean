/- What came of a program, as an argument: rows of numbers, of pairs, of truths. -/
import Derived.Test.YtfmhdjnambnglaaOpn
import Derived.Test.YtfmhdjnambnglaaRwx
import Derived.Deep.Grids
namespace Go.Proofs.Ytfmhdjnambnglaa
open Go.RowKit Go.Joins Go.ChangeShapes
set_option linter.unusedSimpArgs false
set_option linter.unusedVariables false

section
variable {H : Type} {enc : TypeId × Value → H} {w : World} {base : Nat} {spare : Nat → Bool} {held : Bool}


theorem open_introw {fuel : Nat} {v : Value} {y : DataW H × List MemPlace} (h : DataW.trod enc Try.prog w base spare held fuel 23 [v] = some y) : ∃ zs : List Int, GRep (Value.int .i64) w v zs ∧ ∀ z ∈ zs, I64 z := by
  rcases open_ints Try.underlying23 Try.underlying3 k1 h with ⟨hcs, _⟩ | ⟨a, len, cap, zs, hcs, hb, hl, hm, hz, _, hcell, hwf⟩
  · simp only [List.cons.injEq, and_true] at hcs
    subst hcs
    exact ⟨[], ⟨none, 0, rfl, by decide, by decide, fun i hi => by simp at hi⟩, by simp⟩
  · simp only [List.cons.injEq, and_true] at hcs
    subst hcs
    have hlz : len ≤ zs.length := by rw [hz]; split <;> omega
    have htl : (zs.take len).length = len := by simp; omega
    refine ⟨zs.take len, ⟨some a, cap, by rw [htl], by rw [htl]; exact hl, hm, fun i hi => ?_⟩, fun z hz' => bounds_i64 (hwf z (List.mem_of_mem_take hz'))⟩
    have hi' : i < len := by omega
    have hc := hcell i (by omega)
    obtain ⟨b, off, hab⟩ := spot_none hc
    obtain ⟨b0, off0, rfl⟩ : ∃ b off, a = ⟨b, off, none⟩ := by
      have h0 := hcell 0 (by omega)
      obtain ⟨b, off, hab⟩ := spot_none h0
      exact ⟨b, off, by simpa [Addr.add] using hab⟩
    rw [Addr.add_mid] at hc
    exact ⟨b0, off0, rfl, by rw [hc]; simp [List.getD_eq_getElem?_getD, List.getElem?_eq_getElem (show i < zs.length by omega)]⟩

theorem open_boolrow {fuel : Nat} {v : Value} {y : DataW H × List MemPlace} (h : DataW.trod enc Try.prog w base (fun _ => true) held fuel 78 [v] = some y) : ∃ zs : List Bool, GRep Value.bool w v zs := by
  rcases Go.Deep.open_bools Try.underlying78 Try.underlying4 (by kernel_rfl) h with ⟨hcs, _⟩ | ⟨a, len, cap, B, hcs, hb, hl, hm, _, hcell⟩
  · simp only [List.cons.injEq, and_true] at hcs
    subst hcs
    exact ⟨[], none, 0, rfl, by decide, by decide, fun i hi => by simp at hi⟩
  · simp only [List.cons.injEq, and_true] at hcs
    subst hcs
    refine ⟨(List.range len).map B, some a, cap, by simp, by simpa using hl, hm, fun i hi => ?_⟩
    have hi' : i < len := by simpa using hi
    have hc := hcell i (by omega)
    obtain ⟨b0, off0, rfl⟩ : ∃ b off, a = ⟨b, off, none⟩ := by
      have h0 := hcell 0 (by omega)
      obtain ⟨b, off, hab⟩ := spot_none h0
      exact ⟨b, off, by simpa [Addr.add] using hab⟩
    rw [Addr.add_mid] at hc
    exact ⟨b0, off0, rfl, by simpa using hc⟩
end

end Go.Proofs.Ytfmhdjnambnglaa
