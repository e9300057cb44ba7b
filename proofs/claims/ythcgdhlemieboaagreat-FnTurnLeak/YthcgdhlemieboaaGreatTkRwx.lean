/- Rows of cells, one a place: as they lie in memory, and in a block of their own. -/
import Derived.Test.YthcgdhlemieboaaGreatTkTmt
namespace Go.Proofs.YthcgdhlemieboaaGreat
open Go.RowKit
set_option linter.unusedSimpArgs false
set_option linter.unusedVariables false
attribute [local go_sem] World.cell?_alloc_some

def GRep {α : Type} (f : α → Value) (w : World) (s : Value) (xs : List α) : Prop := ∃ a c, s = .slice a xs.length c ∧ xs.length ≤ c ∧ c ≤ maxLen ∧
  (∀ i (hi : i < xs.length), ∃ b off, a = some ⟨b, off, none⟩ ∧ w.cell? ⟨b, off + i, none⟩ = some (f xs[i]))
def GOwn {α : Type} (f : α → Value) (w : World) (s : Value) (xs : List α) (bs : List Nat) : Prop := (xs.length = 0 ∧ (∃ a c, s = .slice a 0 c ∧ c ≤ maxLen) ∧ bs = []) ∨
  (0 < xs.length ∧ ∃ (g c : Nat), s = .slice (some ⟨g, 0, none⟩) xs.length c ∧ xs.length ≤ c ∧ c ≤ maxLen ∧ w.there g 0 xs.length ∧ bs = [g] ∧ ∀ i (hi : i < xs.length), w.cell? ⟨g, i, none⟩ = some (f xs[i]))
theorem GRep.on {α : Type} {f : α → Value} {w w' : World} (hw : ∀ a v, w.cell? a = some v → w'.cell? a = some v) {s : Value} {xs : List α} (h : GRep f w s xs) : GRep f w' s xs := by
  obtain ⟨a, c, rfl, hl, hc, hcell⟩ := h
  refine ⟨a, c, rfl, hl, hc, fun i hi => ?_⟩
  obtain ⟨b, off, ha, h0⟩ := hcell i hi
  exact ⟨b, off, ha, hw _ _ h0⟩
theorem GRep.below {α : Type} {f : α → Value} {w w' : World} (hb : Below w.heap.size w w') {s : Value} {xs : List α} (h : GRep f w s xs) : GRep f w' s xs := h.on (fun _ _ h => cell_later hb h)
theorem GOwn.frame {α : Type} {f : α → Value} {w w' : World} {s : Value} {xs : List α} {bs : List Nat} (hb : ∀ b ∈ bs, w'.heap[b]? = w.heap[b]?) (h : GOwn f w s xs bs) : GOwn f w' s xs bs := by
  rcases h with h | ⟨h0, g, c, rfl, hlc, hcm, ht, rfl, hr⟩
  · exact .inl h
  · exact .inr ⟨h0, g, c, rfl, hlc, hcm, there_same (hb g (by simp)) ht, rfl, fun i hi => (World.cell?_of_block (w := w) (a := ⟨g, i, none⟩) (hb g (by simp))).trans (hr i hi)⟩
theorem GOwn.rep {α : Type} {f : α → Value} {w : World} {s : Value} {xs : List α} {bs : List Nat} (h : GOwn f w s xs bs) : GRep f w s xs := by
  rcases h with ⟨h0, ⟨a, c, rfl, hc⟩, _⟩ | ⟨h0, g, c, rfl, hlc, hcm, ht, rfl, hr⟩
  · exact ⟨a, c, by rw [h0], by omega, hc, fun i hi => by omega⟩
  · exact ⟨_, c, rfl, hlc, hcm, fun i hi => ⟨g, 0, rfl, by rw [Nat.zero_add]; exact hr i hi⟩⟩
theorem infoInt : (Tryz.prog.info? 3).map (fun i => (i.zero, i.size, i.bytes)) = some (some (.int .i64 0), 1, 8) := by kernel_rfl

end Go.Proofs.YthcgdhlemieboaaGreat

namespace Go.Proofs.YthcgdhlemieboaaGreat
open Go.RowKit
set_option linter.unusedSimpArgs false
set_option linter.unusedVariables false
attribute [local go_sem] World.cell?_alloc_some

theorem infoWrite : (Tryz.prog.info? 107).map (fun i => (i.zero, i.size, i.bytes)) = some (some (.agg #[.int .i64 0, .int .i64 0]), 2, 16) := by kernel_rfl

theorem infoSaid : (Tryz.prog.info? 93).map (fun i => (i.zero, i.size, i.bytes)) = some (some (.agg #[.int .i64 0, .int .i64 0]), 2, 16) := by kernel_rfl

end Go.Proofs.YthcgdhlemieboaaGreat

namespace Go.Proofs.YthcgdhlemieboaaGreat
open Go.RowKit
set_option linter.unusedSimpArgs false
set_option linter.unusedVariables false

def nf (k : Int) (n : Nat) : List Int := (List.range n).map fun (i : Nat) => k + (i : Int)
def pf (k : Int) (n : Nat) : List (Int × Int) := (List.range n).map fun (i : Nat) => (k + 2 * (i : Int), k + 2 * (i : Int) + 1)

end Go.Proofs.YthcgdhlemieboaaGreat

namespace Go.Proofs.YthcgdhlemieboaaGreat
open Go.RowKit
set_option linter.unusedSimpArgs false
set_option linter.unusedVariables false
attribute [local go_sem] World.cell?_alloc_some

def C3 (w : World) (b : Nat) (v0 v1 v2 : Value) : Prop :=
  (w.cell? ⟨b, 0, none⟩ = some v0 ∧ w.cell? ⟨b, 1, none⟩ = some v1 ∧ w.cell? ⟨b, 2, none⟩ = some v2) ∧ w.frozen? ⟨b, 0, none⟩ = false ∧ w.frozen? ⟨b, 1, none⟩ = false ∧ w.frozen? ⟨b, 2, none⟩ = false
theorem C3.frame {w w' : World} {b : Nat} {v0 v1 v2 : Value} (h : C3 w b v0 v1 v2) (hb : w'.heap[b]? = w.heap[b]?) : C3 w' b v0 v1 v2 := by
  obtain ⟨⟨c0, c1, c2⟩, f0, f1, f2⟩ := h
  have hc : ∀ o, w'.cell? ⟨b, o, none⟩ = w.cell? ⟨b, o, none⟩ := fun o => World.cell?_of_block hb
  have hf : ∀ o, w'.frozen? ⟨b, o, none⟩ = w.frozen? ⟨b, o, none⟩ := fun o => World.frozen?_of_block (a := ⟨b, o, none⟩) hb
  exact ⟨⟨(hc 0).trans c0, (hc 1).trans c1, (hc 2).trans c2⟩, (hf 0).trans f0, (hf 1).trans f1, (hf 2).trans f2⟩
theorem C3.lt {w : World} {b : Nat} {v0 v1 v2 : Value} (h : C3 w b v0 v1 v2) : b < w.heap.size := World.block_lt_of_cell? w _ h.1.1
theorem C3.below {w w' : World} {b : Nat} {v0 v1 v2 : Value} (h : C3 w b v0 v1 v2) (hb : Below w.heap.size w w') : C3 w' b v0 v1 v2 := h.frame (hb.block b h.lt)
theorem C3.new (w : World) (v0 v1 v2 : Value) (T : TypeId) : C3 (w.alloc (.cells #[v0, v1, v2] T)) w.heap.size v0 v1 v2 := by
  refine ⟨⟨?_, ?_, ?_⟩, ?_, ?_, ?_⟩ <;> simp
theorem C3.far {w : World} {b : Nat} {v0 v1 v2 : Value} (h : C3 w b v0 v1 v2) {a : Addr} (ha : a.block ≠ b) (u : Value) : C3 (w.setCell a u) b v0 v1 v2 := h.frame (Below.heap_setCell _ _ _ _ (fun e => ha e.symm))
theorem C3.set0 {w : World} {b : Nat} {v0 v1 v2 : Value} (u : Value) (h : C3 w b v0 v1 v2) : C3 (w.setCell ⟨b, 0, none⟩ u) b u v1 v2 := by
  obtain ⟨⟨c0, c1, c2⟩, f⟩ := h
  refine ⟨⟨?_, ?_, ?_⟩, by simpa only [World.frozen?_setCell] using f⟩
  · exact World.cell?_setCell_same _ _ _ c0
  · exact (World.cell?_setCell_other _ _ _ _ (by simp)).trans c1
  · exact (World.cell?_setCell_other _ _ _ _ (by simp)).trans c2
theorem C3.set1 {w : World} {b : Nat} {v0 v1 v2 : Value} (u : Value) (h : C3 w b v0 v1 v2) : C3 (w.setCell ⟨b, 1, none⟩ u) b v0 u v2 := by
  obtain ⟨⟨c0, c1, c2⟩, f⟩ := h
  refine ⟨⟨?_, ?_, ?_⟩, by simpa only [World.frozen?_setCell] using f⟩
  · exact (World.cell?_setCell_other _ _ _ _ (by simp)).trans c0
  · exact World.cell?_setCell_same _ _ _ c1
  · exact (World.cell?_setCell_other _ _ _ _ (by simp)).trans c2
theorem C3.set2 {w : World} {b : Nat} {v0 v1 v2 : Value} (u : Value) (h : C3 w b v0 v1 v2) : C3 (w.setCell ⟨b, 2, none⟩ u) b v0 v1 u := by
  obtain ⟨⟨c0, c1, c2⟩, f⟩ := h
  refine ⟨⟨?_, ?_, ?_⟩, by simpa only [World.frozen?_setCell] using f⟩
  · exact (World.cell?_setCell_other _ _ _ _ (by simp)).trans c0
  · exact (World.cell?_setCell_other _ _ _ _ (by simp)).trans c1
  · exact World.cell?_setCell_same _ _ _ c2

structure ROwn (w : World) (nv wv sv : Value) (zs : List Int) (ws ss : List (Int × Int)) (b0 b1 b2 : List Nat) : Prop where
  n : GOwn (Value.int .i64) w nv zs b0
  wr : LOwn w wv ws b1
  sd : LOwn w sv ss b2
theorem ROwn.frame {w w' : World} {nv wv sv : Value} {zs : List Int} {ws ss : List (Int × Int)} {b0 b1 b2 : List Nat} (h : ROwn w nv wv sv zs ws ss b0 b1 b2) (hb : ∀ b ∈ b0 ++ b1 ++ b2, w'.heap[b]? = w.heap[b]?) : ROwn w' nv wv sv zs ws ss b0 b1 b2 :=
  ⟨GOwn.frame (fun b h => hb b (by simp [h])) h.n, LOwn.frame (fun b h => hb b (by simp [h])) h.wr, LOwn.frame (fun b h => hb b (by simp [h])) h.sd⟩
def Apart (b0 b1 b2 : List Nat) : Prop := (∀ b ∈ b0, b ∉ b1 ∧ b ∉ b2) ∧ ∀ b ∈ b1, b ∉ b2

end Go.Proofs.YthcgdhlemieboaaGreat
