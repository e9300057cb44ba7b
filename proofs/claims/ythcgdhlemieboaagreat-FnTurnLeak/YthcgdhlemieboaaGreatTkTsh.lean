/- The step with a number: of the program, and of the model. -/
import Derived.Test.YthcgdhlemieboaaGreatTkCpx
import Derived.Test.YthcgdhlemieboaaGreatTkImp
import Derived.Test.YthcgdhlemieboaaGreatTkSrn
import Derived.Test.YthcgdhlemieboaaGreatTkDpr
import Derived.Test.YthcgdhlemieboaaGreatTkRtx
import Derived.Test.YthcgdhlemieboaaGreatTkTra
import Derived.Test.YthcgdhlemieboaaGreatTkDrx
import Derived.Test.YthcgdhlemieboaaGreatTkTmt
import Derived.Test.YthcgdhlemieboaaGreatTkCpy
import Derived.Test.YthcgdhlemieboaaGreatTkRwx
namespace Go.Proofs.YthcgdhlemieboaaGreat
open Go.RowKit
set_option linter.unusedSimpArgs false
set_option linter.unusedVariables false
attribute [local go_sem] World.cell?_alloc_some

theorem st8_c8 {w : World} {g : Nat} {v0 v1 v2 v3 v4 v5 v6 v7 : Value} (h : C8 w g v0 v1 v2 v3 v4 v5 v6 v7) (u0 u1 u2 u3 u4 u5 u6 u7 : Value) : C8 ((((((((w.setCell ⟨g, 0, none⟩ u0).setCell ⟨g, 1, none⟩ u1).setCell ⟨g, 2, none⟩ u2).setCell ⟨g, 3, none⟩ u3).setCell ⟨g, 4, none⟩ u4).setCell ⟨g, 5, none⟩ u5).setCell ⟨g, 6, none⟩ u6).setCell ⟨g, 7, none⟩ u7) g u0 u1 u2 u3 u4 u5 u6 u7 :=
  (((((((h.set0 u0).set1 u1).set2 u2).set3 u3).set4 u4).set5 u5).set6 u6).set7 u7
theorem st8_heap (w : World) (g b : Nat) (hb : b ≠ g) (u0 u1 u2 u3 u4 u5 u6 u7 : Value) : ((((((((w.setCell ⟨g, 0, none⟩ u0).setCell ⟨g, 1, none⟩ u1).setCell ⟨g, 2, none⟩ u2).setCell ⟨g, 3, none⟩ u3).setCell ⟨g, 4, none⟩ u4).setCell ⟨g, 5, none⟩ u5).setCell ⟨g, 6, none⟩ u6).setCell ⟨g, 7, none⟩ u7).heap[b]? = w.heap[b]? := by
  rw [Below.heap_setCell _ _ _ _ hb, Below.heap_setCell _ _ _ _ hb, Below.heap_setCell _ _ _ _ hb, Below.heap_setCell _ _ _ _ hb, Below.heap_setCell _ _ _ _ hb, Below.heap_setCell _ _ _ _ hb, Below.heap_setCell _ _ _ _ hb, Below.heap_setCell _ _ _ _ hb]
theorem st8_size (w : World) (g : Nat) (u0 u1 u2 u3 u4 u5 u6 u7 : Value) : ((((((((w.setCell ⟨g, 0, none⟩ u0).setCell ⟨g, 1, none⟩ u1).setCell ⟨g, 2, none⟩ u2).setCell ⟨g, 3, none⟩ u3).setCell ⟨g, 4, none⟩ u4).setCell ⟨g, 5, none⟩ u5).setCell ⟨g, 6, none⟩ u6).setCell ⟨g, 7, none⟩ u7).heap.size = w.heap.size := by simp [World.setCell]
theorem st8_below {B : Nat} {a w : World} {g : Nat} (h : Below B a w) (hg : B ≤ g) (u0 u1 u2 u3 u4 u5 u6 u7 : Value) : Below B a ((((((((w.setCell ⟨g, 0, none⟩ u0).setCell ⟨g, 1, none⟩ u1).setCell ⟨g, 2, none⟩ u2).setCell ⟨g, 3, none⟩ u3).setCell ⟨g, 4, none⟩ u4).setCell ⟨g, 5, none⟩ u5).setCell ⟨g, 6, none⟩ u6).setCell ⟨g, 7, none⟩ u7) :=
  (((((((h.setCell (p := ⟨g, 0, none⟩) hg u0).setCell (p := ⟨g, 1, none⟩) hg u1).setCell (p := ⟨g, 2, none⟩) hg u2).setCell (p := ⟨g, 3, none⟩) hg u3).setCell (p := ⟨g, 4, none⟩) hg u4).setCell (p := ⟨g, 5, none⟩) hg u5).setCell (p := ⟨g, 6, none⟩) hg u6).setCell (p := ⟨g, 7, none⟩) hg u7
theorem FlatR.get {W : World} : ∀ {fs : List Sg} {xs : List Value} {q : Nat} {x : Sg}, FlatR W fs xs → fs[q]? = some x → ∃ t e, (∀ j, j < 8 → xs[q * 8 + j]? = (cells8 x.2.1 t e)[j]?) ∧ Rep W x.1 t x.2.2.1 ∧ Rep W x.1 e x.2.2.2
  | [], _, _, _, _, hx => by simp at hx
  | y :: fs, xs, 0, x, h, hx => by
    obtain ⟨t, e, ys, rfl, r1, r2, h⟩ := h
    have : y = x := by simpa using hx
    subst this
    refine ⟨t, e, fun j hj => ?_, r1, r2⟩
    rw [List.getElem?_append_left (by simp [cells8]; omega), Nat.zero_mul, Nat.zero_add]
  | y :: fs, xs, q + 1, x, h, hx => by
    obtain ⟨t, e, ys, rfl, r1, r2, h⟩ := h
    obtain ⟨t', e', h1, h2, h3⟩ := FlatR.get h (by simpa using hx)
    refine ⟨t', e', fun j hj => ?_, h2, h3⟩
    rw [List.getElem?_append_right (by simp [cells8]; omega), ← h1 j hj]
    congr 1
    simp [cells8]; omega
theorem row_cells {w : World} {base : Nat} {e : TypeId} {g n c : Nat} {ys : List Value} (h : w.ownsRow base e 8 (.slice (some ⟨g, 0, none⟩) n c) n ys) {q : Nat} {p : Pay} {t u : Value} (hq : ∀ j, j < 8 → ys[q * 8 + j]? = (cells8 p t u)[j]?) : StepAt w g (q * 8) p t u := range8 (rows_range h hq rfl)

def zeroStep : Value := .agg #[.int .i64 0, .int .i64 0, .int .i64 0, .int .i64 0, .int .i64 0, .int .i64 0, .slice none 0 0, .slice none 0 0]
def stepOf (p : Pay) (t e : Value) : Value := .agg #[.int .i64 p.k, .int .i64 p.v, .int .i64 p.vk, .int .i64 p.va, .int .i64 p.vb, .int .i64 p.h, t, e]
def AtPost (w : World) (ls : List (Int × Int)) (d : Nat) (T : Tr d) (n : Int) (e : Ending) (w' : World) : Prop := Below w.heap.size w w' ∧
  (((progB ls d T && vIn (cnt d T) n) = true ∧ ∃ (x : Sg) (t' e' : Value) (b1 b2 : List Nat), (flat d T)[n.toNat]? = some x ∧ e = .returned (.tuple #[stepOf x.2.1 t' e', .bool true]) ∧ Own w' x.1 t' x.2.2.1 b1 ∧ Own w' x.1 e' x.2.2.2 b2 ∧ (∀ b ∈ b1 ++ b2, w.heap.size ≤ b ∧ b < w'.heap.size) ∧ (b1 ++ b2).Nodup) ∨
   ((progB ls d T && vIn (cnt d T) n) = false ∧ e = .returned (.tuple #[zeroStep, .bool false])))

end Go.Proofs.YthcgdhlemieboaaGreat

namespace Go.Proofs.YthcgdhlemieboaaGreat
open Go.RowKit
set_option linter.unusedSimpArgs false
set_option linter.unusedVariables false
attribute [local go_sem] World.cell?_alloc_some

theorem Oth.grown {r : Nat} {a w w' : World} {row : Option Nat} (h : Oth r a w) (hg : w.grownBy w' row) (hr : ∀ k, row = some k → a.heap.size ≤ k) : Oth r a w' :=
  ⟨hg.os.trans h.os, hg.tape.trans h.tape, hg.output.trans h.output, Nat.le_trans h.size hg.size, fun k hk hne => (hg.block k (Nat.lt_of_lt_of_le hk h.size) (fun e => by have := hr k e.symm; omega)).trans (h.block k hk hne)⟩
end Go.Proofs.YthcgdhlemieboaaGreat

namespace Go.Proofs.YthcgdhlemieboaaGreat
open Go.RowKit
set_option linter.unusedSimpArgs false
set_option linter.unusedVariables false
attribute [local go_sem] World.cell?_alloc_some

end Go.Proofs.YthcgdhlemieboaaGreat

namespace Go.Proofs.YthcgdhlemieboaaGreat
open Go.RowKit
set_option linter.unusedSimpArgs false
set_option linter.unusedVariables false
attribute [local go_sem] World.cell?_alloc_some

theorem infoBool : (Tryz.prog.info? 4).map (fun i => (i.zero, i.size, i.bytes)) = some (some (.bool false), 1, 1) := by kernel_rfl

end Go.Proofs.YthcgdhlemieboaaGreat

namespace Go.Proofs.YthcgdhlemieboaaGreat
open Go.RowKit
set_option linter.unusedSimpArgs false
set_option linter.unusedVariables false
attribute [local go_sem] World.cell?_alloc_some

end Go.Proofs.YthcgdhlemieboaaGreat

namespace Go.Proofs.YthcgdhlemieboaaGreat
open Go.RowKit
set_option linter.unusedSimpArgs false
set_option linter.unusedVariables false

theorem Rdr.alloc {w : World} {r p : Nat} (h : Rdr w r p) (o : Obj) : Rdr (w.alloc o) r p := h.below ((Below.refl _ _).alloc (Nat.le_refl _) o)

def Pair (x : World) (b : Nat) (v0 v1 : Value) : Prop := x.cell? ⟨b, 0, none⟩ = some v0 ∧ x.cell? ⟨b, 1, none⟩ = some v1 ∧ x.frozen? ⟨b, 0, none⟩ = false ∧ x.frozen? ⟨b, 1, none⟩ = false
theorem Pair.new (x : World) (a b : Int) (t : TypeId) : Pair (x.alloc (.cells #[.int .i64 a, .int .i64 b] t)) x.heap.size (.int .i64 a) (.int .i64 b) := ⟨by simp [go_sem], by simp [go_sem], by simp [go_sem], by simp [go_sem]⟩
theorem Pair.oth {r : Nat} {x x' : World} {b : Nat} {v0 v1 : Value} (h : Pair x b v0 v1) (k : Oth r x x') (hb : b ≠ r) : Pair x' b v0 v1 :=
  ⟨k.cell hb h.1, k.cell hb h.2.1, k.frozen hb h.1 h.2.2.1, k.frozen hb h.2.1 h.2.2.2⟩
theorem Pair.below {x x' : World} {b : Nat} {v0 v1 : Value} (h : Pair x b v0 v1) (k : Below x.heap.size x x') : Pair x' b v0 v1 :=
  ⟨cell_later k h.1, cell_later k h.2.1, frozen_later k h.1 h.2.2.1, frozen_later k h.2.1 h.2.2.2⟩
theorem Pair.alloc {x : World} {b : Nat} {v0 v1 : Value} (h : Pair x b v0 v1) (o : Obj) : Pair (x.alloc o) b v0 v1 := h.below ((Below.refl _ _).alloc (Nat.le_refl _) o)
theorem Pair.lt {x : World} {b : Nat} {v0 v1 : Value} (h : Pair x b v0 v1) : b < x.heap.size := World.block_lt_of_cell? _ _ h.1

end Go.Proofs.YthcgdhlemieboaaGreat

namespace Go.Proofs.YthcgdhlemieboaaGreat
open Go.RowKit
set_option linter.unusedSimpArgs false
set_option linter.unusedVariables false
attribute [local go_sem] World.cell?_alloc_some

def Tq (F : FuncId) (f : Pay → Pay) (rv : Value) (k : Nat) (T : Tr k) (wx : World) (s : Value) : Prop := Calls Tryz.prog F #[s, rv] wx fun e w' => ∃ v' bs, e = .returned v' ∧ Below wx.heap.size wx w' ∧ Own w' k v' (mapT f k T) bs ∧ (∀ b ∈ bs, wx.heap.size ≤ b ∧ b < w'.heap.size) ∧ bs.Nodup
theorem okP_host {n : Int} {p : Pay} (h : okP n p) (hk : p.k = 3) : 0 ≤ p.h ∧ p.h < 3 := by
  obtain ⟨z, h⟩ := h
  unfold payB at h
  rw [if_neg (by omega), if_pos hk] at h
  simp [vIn] at h
  omega
end Go.Proofs.YthcgdhlemieboaaGreat
