/- What came of a drawn program, and some variables, as the model draws them. -/
import Derived.Test.YtlhfbhidgabgbaaLsRis
namespace Go.Proofs.Ytlhfbhidgabgbaa
open Go.RowKit
set_option linter.unusedSimpArgs false
set_option linter.unusedVariables false
attribute [local go_sem] World.cell?_alloc_some

theorem R3.mono {B B' : Nat} {w : World} {nv wv sv : Value} {s : RSt} (h : R3 B w nv wv sv s) (hB : B' ≤ B) : R3 B' w nv wv sv s := by
  have q : ∀ {e : TypeId} {sz : Nat} {v : Value} {n : Nat} {xs : List Value}, w.ownsRow B e sz v n xs → w.ownsRow B' e sz v n xs := by
    intro e sz v n xs h
    obtain ⟨q0, q1 | ⟨g, cap, cur, hv, hg, r⟩⟩ := h
    · exact ⟨q0, .inl q1⟩
    · exact ⟨q0, .inr ⟨g, cap, cur, hv, by omega, r⟩⟩
  exact ⟨q h.n, q h.ws, q h.ss, h.nw, h.ns, h.sw⟩
def DrsPost (w : World) (e : Ending) (w' : World) : Prop := ∃ (a b c : Value) (s : RSt) (vv : Value) (vs : List Bool), e = .returned (.tuple #[.agg #[a, b, c], vv]) ∧ Below w.heap.size w w' ∧ R3 (w.heap.size + 1) w' a b c s ∧ GRep Value.bool w' vv vs ∧ (∀ x ∈ s.ws, vIn vs.length x.1 = true) ∧ s.ws.length ≤ 1048576 ∧ vs.length ≤ 4

end Go.Proofs.Ytlhfbhidgabgbaa
