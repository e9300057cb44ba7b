/- Rows as the laws look at them; labels that are turned; sets and rows that are drawn. -/
import Derived.Test.YtfmhdjnambnglaaVsTdr
import Derived.Test.YtfmhdjnambnglaaVsOdd
import Derived.Deep.RegionHeld3
import Derived.Deep.DrawnRows
namespace Go.Proofs.Ytfmhdjnambnglaa
open Go.RowKit
set_option linter.unusedSimpArgs false
set_option linter.unusedVariables false
attribute [local go_sem] World.cell?_alloc_some

theorem madeCells1 (z : Value) (n q : Nat) (h : q < n) : (madeCells #[z] n).toList[q]? = some z := by simp [madeCells, h, Nat.mod_one]

/-- A label in its box, a row, and the box of an answer. -/
def STn (w : World) (k t : Int) (v : Value) (zs : List Int) (wz : World) : Prop := wz.cell? ⟨w.heap.size, 0, none⟩ = some (.int .i64 k) ∧ wz.cell? ⟨w.heap.size, 1, none⟩ = some (.int .i64 t) ∧ GRep (Value.int .i64) wz v zs ∧ Below w.heap.size w wz ∧ ∃ x y, Pair wz (w.heap.size + 1) x y
theorem STn.below {w : World} {k t : Int} {v : Value} {zs : List Int} {wz wy : World} (h : STn w k t v zs wz) (hb : Below wz.heap.size wz wy) : STn w k t v zs wy := by
  obtain ⟨h0, h1, h2, h3, x, y, h4⟩ := h
  exact ⟨cell_later hb h0, cell_later hb h1, h2.below hb, Below.then h3 hb h3.size, x, y, h4.below hb⟩
theorem STn.set {w : World} {k t : Int} {v : Value} {zs : List Int} {wz : World} (h : STn w k t v zs wz) (hv : ∀ a n c, v = .slice (some a) n c → a.block < w.heap.size) (u u' : Value) : STn w k t v zs ((wz.setCell ⟨w.heap.size + 1, 0, none⟩ u).setCell ⟨w.heap.size + 1, 1, none⟩ u') := by
  obtain ⟨h0, h1, h2, h3, x, y, h4⟩ := h
  have hne : ∀ b, b ≠ w.heap.size + 1 → ((wz.setCell ⟨w.heap.size + 1, 0, none⟩ u).setCell ⟨w.heap.size + 1, 1, none⟩ u').heap[b]? = wz.heap[b]? := fun b hb => (Below.heap_setCell _ _ _ _ hb).trans (Below.heap_setCell _ _ _ _ hb)
  refine ⟨(World.cell?_of_block (hne _ (by simp))).trans h0, (World.cell?_of_block (hne _ (by simp))).trans h1, ?_, (h3.setCell (by show w.heap.size ≤ w.heap.size + 1; omega) _).setCell (by show w.heap.size ≤ w.heap.size + 1; omega) _, u, u', set_two0 h4.1 h4.2.1, set_two1 h4.1 h4.2.1, by simpa only [World.frozen?_setCell] using h4.2.2.1, by simpa only [World.frozen?_setCell] using h4.2.2.2⟩
  obtain ⟨a, c, rfl, hl, hc, hcell⟩ := h2
  refine ⟨a, c, rfl, hl, hc, fun i hi => ?_⟩
  obtain ⟨b, off, rfl, hx⟩ := hcell i hi
  have := hv _ _ _ rfl
  exact ⟨b, off, rfl, (World.cell?_of_block (hne b (by show b ≠ _; have : b < w.heap.size := this; omega))).trans hx⟩
theorem STn.cells {w : World} {k t : Int} {v : Value} {zs : List Int} {wz : World} (h : STn w k t v zs wz) : ∃ x y, wz.cell? ⟨w.heap.size + 1, 0, none⟩ = some x ∧ wz.cell? ⟨w.heap.size + 1, 1, none⟩ = some y ∧ wz.frozen? ⟨w.heap.size + 1, 0, none⟩ = false ∧ wz.frozen? ⟨w.heap.size + 1, 1, none⟩ = false := by
  obtain ⟨_, _, _, _, x, y, h1, h2, h3, h4⟩ := h
  exact ⟨x, y, h1, h2, h3, h4⟩
def DsPost (w : World) (e : Ending) (w' : World) : Prop := ∃ (s : Int) (zs : List Int) (g c : Nat), e = .returned (.tuple #[.int .i64 s, .slice (some ⟨g, 0, none⟩) zs.length c]) ∧ -1 ≤ s ∧ s ≤ 8 ∧ Below w.heap.size w w' ∧ GRep (Value.int .i64) w' (.slice (some ⟨g, 0, none⟩) zs.length c) zs ∧ zs.length ≤ 9 ∧ w.heap.size ≤ g
theorem row_rep1 {α : Type} {f : α → Value} {w : World} {base : Nat} {e : TypeId} {g c : Nat} {xs : List α} (h : w.ownsRow base e 1 (.slice (some ⟨g, 0, none⟩) xs.length c) xs.length (xs.map f)) : GRep f w (.slice (some ⟨g, 0, none⟩) xs.length c) xs := by
  obtain ⟨h0, ⟨h1, h2⟩ | ⟨g', cap, cur, hv, hg, hh, hc, hm, hs, ht⟩⟩ := id h
  · simp at h1
  · cases hv
    refine ⟨_, _, rfl, hc, hm, fun i hi => ⟨g, 0, rfl, ?_⟩⟩
    rw [Nat.zero_add, World.ownsRow.cellAt h i (by omega)]
    simp [hi]

end Go.Proofs.Ytfmhdjnambnglaa
