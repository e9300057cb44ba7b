/- The step with a number, of the model. -/
import Derived.Test.YtlhfbhidgabgbaaAtP
namespace Go.Proofs.Ytlhfbhidgabgbaa
open Go.RowKit
set_option linter.unusedSimpArgs false
set_option linter.unusedVariables false
attribute [local go_sem] World.cell?_alloc_some

theorem nodup_part : ∀ {L : List (List Nat)} {x : List Nat}, L.flatten.Nodup → x ∈ L → x.Nodup
  | y :: L, x, h, hx => by
    rw [List.flatten_cons] at h
    have h' := List.nodup_append.1 h
    rcases List.mem_cons.1 hx with rfl | hx
    · exact h'.1
    · exact nodup_part h'.2.1 hx
theorem flat_srep {W w : World} {v : Value} {fs : List Sg} {xs : List Value} {base : Nat} (own : w.ownsRow base 91 8 v fs.length xs) (fl : FlatR W fs xs) (hb : Below W.heap.size W w) (hv : v ≠ .slice none 0 0) : SRep w v fs := by
  obtain ⟨g, c, rfl, -, -⟩ := row_some own hv
  obtain ⟨_, ⟨h1, _⟩ | ⟨g', cap, cur, hv', hg, hh, hc, hm, hs, ht⟩⟩ := id own
  · cases h1
  · cases hv'
    refine ⟨_, c, rfl, hc, hm, fun i hi => ?_⟩
    obtain ⟨t, e, hcs, r1, r2⟩ := FlatR.get fl (List.getElem?_eq_getElem hi)
    exact ⟨g, 0, t, e, rfl, by rw [Nat.zero_add]; exact row_cells own hcs, r1.below hb, r2.below hb⟩

end Go.Proofs.Ytlhfbhidgabgbaa
