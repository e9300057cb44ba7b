/- The step with a number: of the program, and of the model. -/
import Derived.Test.YtlhfbhidgabgbaaCpx
import Derived.Test.YtlhfbhidgabgbaaImp
namespace Go.Proofs.Ytlhfbhidgabgbaa
open Go.RowKit
set_option linter.unusedSimpArgs false
set_option linter.unusedVariables false
attribute [local go_sem] World.cell?_alloc_some

theorem st8_c8 {w : World} {g : Nat} {v0 v1 v2 v3 v4 v5 v6 v7 : Value} (h : C8 w g v0 v1 v2 v3 v4 v5 v6 v7) (u0 u1 u2 u3 u4 u5 u6 u7 : Value) : C8 ((((((((w.setCell ⟨g, 0, none⟩ u0).setCell ⟨g, 1, none⟩ u1).setCell ⟨g, 2, none⟩ u2).setCell ⟨g, 3, none⟩ u3).setCell ⟨g, 4, none⟩ u4).setCell ⟨g, 5, none⟩ u5).setCell ⟨g, 6, none⟩ u6).setCell ⟨g, 7, none⟩ u7) g u0 u1 u2 u3 u4 u5 u6 u7 :=
  (((((((h.set0 u0).set1 u1).set2 u2).set3 u3).set4 u4).set5 u5).set6 u6).set7 u7
theorem st8_heap (w : World) (g b : Nat) (hb : b ≠ g) (u0 u1 u2 u3 u4 u5 u6 u7 : Value) : ((((((((w.setCell ⟨g, 0, none⟩ u0).setCell ⟨g, 1, none⟩ u1).setCell ⟨g, 2, none⟩ u2).setCell ⟨g, 3, none⟩ u3).setCell ⟨g, 4, none⟩ u4).setCell ⟨g, 5, none⟩ u5).setCell ⟨g, 6, none⟩ u6).setCell ⟨g, 7, none⟩ u7).heap[b]? = w.heap[b]? := by
  rw [Below.heap_setCell _ _ _ _ hb, Below.heap_setCell _ _ _ _ hb, Below.heap_setCell _ _ _ _ hb, Below.heap_setCell _ _ _ _ hb, Below.heap_setCell _ _ _ _ hb, Below.heap_setCell _ _ _ _ hb, Below.heap_setCell _ _ _ _ hb, Below.heap_setCell _ _ _ _ hb]
theorem st8_size (w : World) (g : Nat) (u0 u1 u2 u3 u4 u5 u6 u7 : Value) : ((((((((w.setCell ⟨g, 0, none⟩ u0).setCell ⟨g, 1, none⟩ u1).setCell ⟨g, 2, none⟩ u2).setCell ⟨g, 3, none⟩ u3).setCell ⟨g, 4, none⟩ u4).setCell ⟨g, 5, none⟩ u5).setCell ⟨g, 6, none⟩ u6).setCell ⟨g, 7, none⟩ u7).heap.size = w.heap.size := by simp [World.setCell]
theorem st8_below {B : Nat} {a w : World} {g : Nat} (h : Below B a w) (hg : B ≤ g) (u0 u1 u2 u3 u4 u5 u6 u7 : Value) : Below B a ((((((((w.setCell ⟨g, 0, none⟩ u0).setCell ⟨g, 1, none⟩ u1).setCell ⟨g, 2, none⟩ u2).setCell ⟨g, 3, none⟩ u3).setCell ⟨g, 4, none⟩ u4).setCell ⟨g, 5, none⟩ u5).setCell ⟨g, 6, none⟩ u6).setCell ⟨g, 7, none⟩ u7) :=
  (((((((h.setCell (p := ⟨g, 0, none⟩) hg u0).setCell (p := ⟨g, 1, none⟩) hg u1).setCell (p := ⟨g, 2, none⟩) hg u2).setCell (p := ⟨g, 3, none⟩) hg u3).setCell (p := ⟨g, 4, none⟩) hg u4).setCell (p := ⟨g, 5, none⟩) hg u5).setCell (p := ⟨g, 6, none⟩) hg u6).setCell (p := ⟨g, 7, none⟩) hg u7
theorem mem_le_sum : ∀ {l : List Nat} {n : Nat}, n ∈ l → n ≤ l.sum
  | x :: l, n, h => by
    rcases List.mem_cons.1 h with rfl | h
    · simp
    · have := mem_le_sum h; simp; omega
theorem FlatR.get {W : World} : ∀ {fs : List Sg} {xs : List Value} {q : Nat} {x : Sg}, FlatR W fs xs → fs[q]? = some x → ∃ t e, (∀ j, j < 8 → xs[q * 8 + j]? = (cells8 x.2.1 t e)[j]?) ∧ Rep W x.1 t x.2.2.1 ∧ Rep W x.1 e x.2.2.2
  | [], _, _, _, _, hx => by simp at hx
  | y :: fs, xs, 0, x, h, hx => by
    obtain ⟨t, e, ys, rfl, r1, r2, h⟩ := h
    have : y = x := by simpa using hx
    subst this
    refine ⟨t, e, fun j hj => ?_, r1, r2⟩
    rw [List.getElem?_append_left (by simp [cells8]; omega), Nat.zero_mul, Nat.zero_add]
  | y :: fs, xs, q + 1, x, h, hx => by
    obtain ⟨t, e, ys, rfl, r1, r2, h⟩ := h
    obtain ⟨t', e', h1, h2, h3⟩ := FlatR.get h (by simpa using hx)
    refine ⟨t', e', fun j hj => ?_, h2, h3⟩
    rw [List.getElem?_append_right (by simp [cells8]; omega), ← h1 j hj]
    congr 1
    simp [cells8]; omega
theorem flat_cnt : ∀ (d : Nat) (T : Tr d) (x : Sg), x ∈ flat d T → cnt x.1 x.2.2.1 + cnt x.1 x.2.2.2 + 1 ≤ cnt d T
  | 0, _, _, h => by cases h
  | d + 1, (l : List (Pay × Tr d × Tr d)), x, h => by
    obtain ⟨y, hy, hx⟩ := List.mem_flatMap.1 h
    have h1 : 1 + cnt d y.2.1 + cnt d y.2.2 ≤ cnt (d + 1) (l : List (Pay × Tr d × Tr d)) := by
      show 1 + cnt d y.2.1 + cnt d y.2.2 ≤ (l.map fun x => 1 + cnt d x.2.1 + cnt d x.2.2).sum
      exact mem_le_sum (List.mem_map.2 ⟨y, hy, rfl⟩)
    rcases List.mem_cons.1 hx with rfl | hx
    · show cnt d y.2.1 + cnt d y.2.2 + 1 ≤ _; omega
    · rcases List.mem_append.1 hx with hx | hx
      · have := flat_cnt d _ x hx; omega
      · have := flat_cnt d _ x hx; omega
theorem row_cells {w : World} {base : Nat} {e : TypeId} {g n c : Nat} {ys : List Value} (h : w.ownsRow base e 8 (.slice (some ⟨g, 0, none⟩) n c) n ys) {q : Nat} {p : Pay} {t u : Value} (hq : ∀ j, j < 8 → ys[q * 8 + j]? = (cells8 p t u)[j]?) : StepAt w g (q * 8) p t u := range8 (rows_range h hq rfl)

def zeroStep : Value := .agg #[.int .i64 0, .int .i64 0, .int .i64 0, .int .i64 0, .int .i64 0, .int .i64 0, .slice none 0 0, .slice none 0 0]
def stepOf (p : Pay) (t e : Value) : Value := .agg #[.int .i64 p.k, .int .i64 p.v, .int .i64 p.vk, .int .i64 p.va, .int .i64 p.vb, .int .i64 p.h, t, e]
/-- What ProgAt answers. -/
def AtPost (w : World) (ls : List (Int × Int)) (d : Nat) (T : Tr d) (n : Int) (e : Ending) (w' : World) : Prop := Below w.heap.size w w' ∧
  (((progB ls d T && vIn (cnt d T) n) = true ∧ ∃ (x : Sg) (t' e' : Value) (b1 b2 : List Nat), (flat d T)[n.toNat]? = some x ∧ e = .returned (.tuple #[stepOf x.2.1 t' e', .bool true]) ∧ Own w' x.1 t' x.2.2.1 b1 ∧ Own w' x.1 e' x.2.2.2 b2 ∧ (∀ b ∈ b1 ++ b2, w.heap.size ≤ b ∧ b < w'.heap.size) ∧ (b1 ++ b2).Nodup) ∨
   ((progB ls d T && vIn (cnt d T) n) = false ∧ e = .returned (.tuple #[zeroStep, .bool false])))

end Go.Proofs.Ytlhfbhidgabgbaa
