/- The step with a number: of the program, and of the model. -/
import Derived.Test.YtlhfbhidgabgbaaLsCpx
import Derived.Test.YtlhfbhidgabgbaaLsImp
namespace Go.Proofs.Ytlhfbhidgabgbaa
open Go.RowKit
set_option linter.unusedSimpArgs false
set_option linter.unusedVariables false
attribute [local go_sem] World.cell?_alloc_some

theorem FlatR.get {W : World} : ∀ {fs : List Sg} {xs : List Value} {q : Nat} {x : Sg}, FlatR W fs xs → fs[q]? = some x → ∃ t e, (∀ j, j < 8 → xs[q * 8 + j]? = (cells8 x.2.1 t e)[j]?) ∧ Rep W x.1 t x.2.2.1 ∧ Rep W x.1 e x.2.2.2
  | [], _, _, _, _, hx => by simp at hx
  | y :: fs, xs, 0, x, h, hx => by
    obtain ⟨t, e, ys, rfl, r1, r2, h⟩ := h
    have : y = x := by simpa using hx
    subst this
    refine ⟨t, e, fun j hj => ?_, r1, r2⟩
    rw [List.getElem?_append_left (by simp [cells8]; omega), Nat.zero_mul, Nat.zero_add]
  | y :: fs, xs, q + 1, x, h, hx => by
    obtain ⟨t, e, ys, rfl, r1, r2, h⟩ := h
    obtain ⟨t', e', h1, h2, h3⟩ := FlatR.get h (by simpa using hx)
    refine ⟨t', e', fun j hj => ?_, h2, h3⟩
    rw [List.getElem?_append_right (by simp [cells8]; omega), ← h1 j hj]
    congr 1
    simp [cells8]; omega
theorem row_cells {w : World} {base : Nat} {e : TypeId} {g n c : Nat} {ys : List Value} (h : w.ownsRow base e 8 (.slice (some ⟨g, 0, none⟩) n c) n ys) {q : Nat} {p : Pay} {t u : Value} (hq : ∀ j, j < 8 → ys[q * 8 + j]? = (cells8 p t u)[j]?) : StepAt w g (q * 8) p t u := range8 (rows_range h hq rfl)

def zeroStep : Value := .agg #[.int .i64 0, .int .i64 0, .int .i64 0, .int .i64 0, .int .i64 0, .int .i64 0, .slice none 0 0, .slice none 0 0]
def stepOf (p : Pay) (t e : Value) : Value := .agg #[.int .i64 p.k, .int .i64 p.v, .int .i64 p.vk, .int .i64 p.va, .int .i64 p.vb, .int .i64 p.h, t, e]
/-- What ProgAt answers. -/
def AtPost (w : World) (ls : List (Int × Int)) (d : Nat) (T : Tr d) (n : Int) (e : Ending) (w' : World) : Prop := Below w.heap.size w w' ∧
  (((progB ls d T && vIn (cnt d T) n) = true ∧ ∃ (x : Sg) (t' e' : Value) (b1 b2 : List Nat), (flat d T)[n.toNat]? = some x ∧ e = .returned (.tuple #[stepOf x.2.1 t' e', .bool true]) ∧ Own w' x.1 t' x.2.2.1 b1 ∧ Own w' x.1 e' x.2.2.2 b2 ∧ (∀ b ∈ b1 ++ b2, w.heap.size ≤ b ∧ b < w'.heap.size) ∧ (b1 ++ b2).Nodup) ∨
   ((progB ls d T && vIn (cnt d T) n) = false ∧ e = .returned (.tuple #[zeroStep, .bool false])))

end Go.Proofs.Ytlhfbhidgabgbaa
