/- Steps in steps, in memory of their own. -/
import Derived.Test.YthcgdhlemieboaaGreatTkPcx
import Derived.Deep.MidRow
namespace Go.Proofs.YthcgdhlemieboaaGreat
open Go.RowKit
set_option linter.unusedSimpArgs false
set_option linter.unusedVariables false

def Own (w : World) : (d : Nat) → Value → Tr d → List Nat → Prop
  | 0, s, _, bs => (∃ a c, s = .slice a 0 c) ∧ bs = []
  | d + 1, s, (l : List (Pay × Tr d × Tr d)), bs => (l.length = 0 ∧ (∃ a c, s = .slice a 0 c ∧ c ≤ maxLen) ∧ bs = []) ∨
      (0 < l.length ∧ ∃ (g c : Nat) (parts : List (List Nat)), s = .slice (some ⟨g, 0, none⟩) l.length c ∧ l.length ≤ c ∧ c ≤ maxLen ∧ w.there g 0 (l.length * 8) ∧ parts.length = l.length ∧ bs = g :: parts.flatten ∧
        ∀ i (hi : i < l.length), ∃ t e b1 b2, parts[i]? = some (b1 ++ b2) ∧ w.rangeAt g (i * 8) (cells8 l[i].1 t e) ∧ Own w d t l[i].2.1 b1 ∧ Own w d e l[i].2.2 b2)

theorem there_same {w w' : World} {g : Nat} (h : w'.heap[g]? = w.heap[g]?) {o n : Nat} (ht : w.there g o n) : w'.there g o n := fun j hj =>
  ⟨by rw [World.cell?_of_block (w := w) (a := ⟨g, o + j, none⟩) h]; exact (ht j hj).1, by rw [World.frozen?_of_block (w := w) (a := ⟨g, o + j, none⟩) h]; exact (ht j hj).2⟩
theorem range_same {w w' : World} {g : Nat} (h : w'.heap[g]? = w.heap[g]?) {o : Nat} {cs : List Value} (ht : w.rangeAt g o cs) : w'.rangeAt g o cs := fun j v hv =>
  (World.cell?_of_block (w := w) (a := ⟨g, o + j, none⟩) h).trans (ht j v hv)
theorem Own.frame {w w' : World} : ∀ {d : Nat} {s : Value} {T : Tr d} {bs : List Nat}, (∀ b ∈ bs, w'.heap[b]? = w.heap[b]?) → Own w d s T bs → Own w' d s T bs := by
  intro d
  induction d with
  | zero => exact fun _ h => h
  | succ d ih =>
    intro s (l : List (Pay × Tr d × Tr d)) bs hb h
    rcases h with h | ⟨h0, g, c, parts, rfl, hlc, hcm, ht, hp, rfl, hr⟩
    · exact .inl h
    · refine .inr ⟨h0, g, c, parts, rfl, hlc, hcm, there_same (hb g (by simp)) ht, hp, rfl, fun i hi => ?_⟩
      obtain ⟨t, e, b1, b2, hq, hra, o1, o2⟩ := hr i hi
      have hm : ∀ b ∈ b1 ++ b2, b ∈ parts.flatten := fun b hbm => List.mem_flatten.2 ⟨_, List.mem_of_getElem? hq, hbm⟩
      exact ⟨t, e, b1, b2, hq, range_same (hb g (by simp)) hra, ih (fun b h => hb b (List.mem_cons_of_mem _ (hm b (List.mem_append_left _ h)))) o1, ih (fun b h => hb b (List.mem_cons_of_mem _ (hm b (List.mem_append_right _ h)))) o2⟩
theorem Own.below {w w' : World} {d : Nat} {s : Value} {T : Tr d} {bs : List Nat} (h : Own w d s T bs) (hb : Below w.heap.size w w') (hlt : ∀ b ∈ bs, b < w.heap.size) : Own w' d s T bs :=
  h.frame (fun b hm => hb.block b (hlt b hm))
theorem range8 {w : World} {g o : Nat} {p : Pay} {t e : Value} (h : w.rangeAt g o (cells8 p t e)) : StepAt w g o p t e :=
  ⟨h 0 _ rfl, h 1 _ rfl, h 2 _ rfl, h 3 _ rfl, h 4 _ rfl, h 5 _ rfl, h 6 _ rfl, h 7 _ rfl⟩
theorem Own.rep {w : World} : ∀ {d : Nat} {s : Value} {T : Tr d} {bs : List Nat}, Own w d s T bs → Rep w d s T := by
  intro d
  induction d with
  | zero => exact fun h => h.1
  | succ d ih =>
    intro s (l : List (Pay × Tr d × Tr d)) bs h
    rcases h with ⟨h0, ⟨a, c, rfl, hc⟩, _⟩ | ⟨h0, g, c, parts, rfl, hlc, hcm, ht, hp, rfl, hr⟩
    · exact ⟨a, c, by rw [h0], by omega, hc, fun i hi => by omega⟩
    · refine ⟨_, c, rfl, hlc, hcm, fun i hi => ?_⟩
      obtain ⟨t, e, b1, b2, hq, hra, o1, o2⟩ := hr i hi
      exact ⟨g, 0, t, e, rfl, by rw [Nat.zero_add]; exact range8 hra, ih o1, ih o2⟩
theorem Own.slice {w : World} {d : Nat} {s : Value} {T : Tr d} {bs : List Nat} (h : Own w d s T bs) : ∃ a c, s = .slice a (ln d T) c := h.rep.slice

def C8 (w : World) (b : Nat) (v0 v1 v2 v3 v4 v5 v6 v7 : Value) : Prop :=
  (w.cell? ⟨b, 0, none⟩ = some v0 ∧ w.cell? ⟨b, 1, none⟩ = some v1 ∧ w.cell? ⟨b, 2, none⟩ = some v2 ∧ w.cell? ⟨b, 3, none⟩ = some v3 ∧ w.cell? ⟨b, 4, none⟩ = some v4 ∧ w.cell? ⟨b, 5, none⟩ = some v5 ∧ w.cell? ⟨b, 6, none⟩ = some v6 ∧ w.cell? ⟨b, 7, none⟩ = some v7) ∧
  (w.frozen? ⟨b, 0, none⟩ = false ∧ w.frozen? ⟨b, 1, none⟩ = false ∧ w.frozen? ⟨b, 2, none⟩ = false ∧ w.frozen? ⟨b, 3, none⟩ = false ∧ w.frozen? ⟨b, 4, none⟩ = false ∧ w.frozen? ⟨b, 5, none⟩ = false ∧ w.frozen? ⟨b, 6, none⟩ = false ∧ w.frozen? ⟨b, 7, none⟩ = false)
theorem C8.below {w w' : World} {b : Nat} {v0 v1 v2 v3 v4 v5 v6 v7 : Value} (h : C8 w b v0 v1 v2 v3 v4 v5 v6 v7) (hb : Below w.heap.size w w') : C8 w' b v0 v1 v2 v3 v4 v5 v6 v7 := by
  obtain ⟨⟨c0, c1, c2, c3, c4, c5, c6, c7⟩, f⟩ := h
  have hlt : b < w.heap.size := World.block_lt_of_cell? w _ c0
  have hf : ∀ o, w'.frozen? ⟨b, o, none⟩ = w.frozen? ⟨b, o, none⟩ := fun o => hb.frozen (p := ⟨b, o, none⟩) hlt
  exact ⟨⟨cell_later hb c0, cell_later hb c1, cell_later hb c2, cell_later hb c3, cell_later hb c4, cell_later hb c5, cell_later hb c6, cell_later hb c7⟩,
    (hf 0).trans f.1, (hf 1).trans f.2.1, (hf 2).trans f.2.2.1, (hf 3).trans f.2.2.2.1, (hf 4).trans f.2.2.2.2.1, (hf 5).trans f.2.2.2.2.2.1, (hf 6).trans f.2.2.2.2.2.2.1, (hf 7).trans f.2.2.2.2.2.2.2⟩
theorem C8.new (w : World) (v0 v1 v2 v3 v4 v5 v6 v7 : Value) (T : TypeId) : C8 (w.alloc (.cells #[v0, v1, v2, v3, v4, v5, v6, v7] T)) w.heap.size v0 v1 v2 v3 v4 v5 v6 v7 := by
  refine ⟨⟨?_, ?_, ?_, ?_, ?_, ?_, ?_, ?_⟩, ?_, ?_, ?_, ?_, ?_, ?_, ?_, ?_⟩ <;> simp
theorem C8.set0 {w : World} {b : Nat} {v0 v1 v2 v3 v4 v5 v6 v7 : Value} (u : Value) (h : C8 w b v0 v1 v2 v3 v4 v5 v6 v7) : C8 (w.setCell ⟨b, 0, none⟩ u) b u v1 v2 v3 v4 v5 v6 v7 := by
  obtain ⟨⟨c0, c1, c2, c3, c4, c5, c6, c7⟩, f⟩ := h
  refine ⟨⟨?_, ?_, ?_, ?_, ?_, ?_, ?_, ?_⟩, by simpa only [World.frozen?_setCell] using f⟩
  · exact World.cell?_setCell_same _ _ _ c0
  · exact (World.cell?_setCell_other _ _ _ _ (by simp)).trans c1
  · exact (World.cell?_setCell_other _ _ _ _ (by simp)).trans c2
  · exact (World.cell?_setCell_other _ _ _ _ (by simp)).trans c3
  · exact (World.cell?_setCell_other _ _ _ _ (by simp)).trans c4
  · exact (World.cell?_setCell_other _ _ _ _ (by simp)).trans c5
  · exact (World.cell?_setCell_other _ _ _ _ (by simp)).trans c6
  · exact (World.cell?_setCell_other _ _ _ _ (by simp)).trans c7
theorem C8.set1 {w : World} {b : Nat} {v0 v1 v2 v3 v4 v5 v6 v7 : Value} (u : Value) (h : C8 w b v0 v1 v2 v3 v4 v5 v6 v7) : C8 (w.setCell ⟨b, 1, none⟩ u) b v0 u v2 v3 v4 v5 v6 v7 := by
  obtain ⟨⟨c0, c1, c2, c3, c4, c5, c6, c7⟩, f⟩ := h
  refine ⟨⟨?_, ?_, ?_, ?_, ?_, ?_, ?_, ?_⟩, by simpa only [World.frozen?_setCell] using f⟩
  · exact (World.cell?_setCell_other _ _ _ _ (by simp)).trans c0
  · exact World.cell?_setCell_same _ _ _ c1
  · exact (World.cell?_setCell_other _ _ _ _ (by simp)).trans c2
  · exact (World.cell?_setCell_other _ _ _ _ (by simp)).trans c3
  · exact (World.cell?_setCell_other _ _ _ _ (by simp)).trans c4
  · exact (World.cell?_setCell_other _ _ _ _ (by simp)).trans c5
  · exact (World.cell?_setCell_other _ _ _ _ (by simp)).trans c6
  · exact (World.cell?_setCell_other _ _ _ _ (by simp)).trans c7
theorem C8.set2 {w : World} {b : Nat} {v0 v1 v2 v3 v4 v5 v6 v7 : Value} (u : Value) (h : C8 w b v0 v1 v2 v3 v4 v5 v6 v7) : C8 (w.setCell ⟨b, 2, none⟩ u) b v0 v1 u v3 v4 v5 v6 v7 := by
  obtain ⟨⟨c0, c1, c2, c3, c4, c5, c6, c7⟩, f⟩ := h
  refine ⟨⟨?_, ?_, ?_, ?_, ?_, ?_, ?_, ?_⟩, by simpa only [World.frozen?_setCell] using f⟩
  · exact (World.cell?_setCell_other _ _ _ _ (by simp)).trans c0
  · exact (World.cell?_setCell_other _ _ _ _ (by simp)).trans c1
  · exact World.cell?_setCell_same _ _ _ c2
  · exact (World.cell?_setCell_other _ _ _ _ (by simp)).trans c3
  · exact (World.cell?_setCell_other _ _ _ _ (by simp)).trans c4
  · exact (World.cell?_setCell_other _ _ _ _ (by simp)).trans c5
  · exact (World.cell?_setCell_other _ _ _ _ (by simp)).trans c6
  · exact (World.cell?_setCell_other _ _ _ _ (by simp)).trans c7
theorem C8.set3 {w : World} {b : Nat} {v0 v1 v2 v3 v4 v5 v6 v7 : Value} (u : Value) (h : C8 w b v0 v1 v2 v3 v4 v5 v6 v7) : C8 (w.setCell ⟨b, 3, none⟩ u) b v0 v1 v2 u v4 v5 v6 v7 := by
  obtain ⟨⟨c0, c1, c2, c3, c4, c5, c6, c7⟩, f⟩ := h
  refine ⟨⟨?_, ?_, ?_, ?_, ?_, ?_, ?_, ?_⟩, by simpa only [World.frozen?_setCell] using f⟩
  · exact (World.cell?_setCell_other _ _ _ _ (by simp)).trans c0
  · exact (World.cell?_setCell_other _ _ _ _ (by simp)).trans c1
  · exact (World.cell?_setCell_other _ _ _ _ (by simp)).trans c2
  · exact World.cell?_setCell_same _ _ _ c3
  · exact (World.cell?_setCell_other _ _ _ _ (by simp)).trans c4
  · exact (World.cell?_setCell_other _ _ _ _ (by simp)).trans c5
  · exact (World.cell?_setCell_other _ _ _ _ (by simp)).trans c6
  · exact (World.cell?_setCell_other _ _ _ _ (by simp)).trans c7
theorem C8.set4 {w : World} {b : Nat} {v0 v1 v2 v3 v4 v5 v6 v7 : Value} (u : Value) (h : C8 w b v0 v1 v2 v3 v4 v5 v6 v7) : C8 (w.setCell ⟨b, 4, none⟩ u) b v0 v1 v2 v3 u v5 v6 v7 := by
  obtain ⟨⟨c0, c1, c2, c3, c4, c5, c6, c7⟩, f⟩ := h
  refine ⟨⟨?_, ?_, ?_, ?_, ?_, ?_, ?_, ?_⟩, by simpa only [World.frozen?_setCell] using f⟩
  · exact (World.cell?_setCell_other _ _ _ _ (by simp)).trans c0
  · exact (World.cell?_setCell_other _ _ _ _ (by simp)).trans c1
  · exact (World.cell?_setCell_other _ _ _ _ (by simp)).trans c2
  · exact (World.cell?_setCell_other _ _ _ _ (by simp)).trans c3
  · exact World.cell?_setCell_same _ _ _ c4
  · exact (World.cell?_setCell_other _ _ _ _ (by simp)).trans c5
  · exact (World.cell?_setCell_other _ _ _ _ (by simp)).trans c6
  · exact (World.cell?_setCell_other _ _ _ _ (by simp)).trans c7
theorem C8.set5 {w : World} {b : Nat} {v0 v1 v2 v3 v4 v5 v6 v7 : Value} (u : Value) (h : C8 w b v0 v1 v2 v3 v4 v5 v6 v7) : C8 (w.setCell ⟨b, 5, none⟩ u) b v0 v1 v2 v3 v4 u v6 v7 := by
  obtain ⟨⟨c0, c1, c2, c3, c4, c5, c6, c7⟩, f⟩ := h
  refine ⟨⟨?_, ?_, ?_, ?_, ?_, ?_, ?_, ?_⟩, by simpa only [World.frozen?_setCell] using f⟩
  · exact (World.cell?_setCell_other _ _ _ _ (by simp)).trans c0
  · exact (World.cell?_setCell_other _ _ _ _ (by simp)).trans c1
  · exact (World.cell?_setCell_other _ _ _ _ (by simp)).trans c2
  · exact (World.cell?_setCell_other _ _ _ _ (by simp)).trans c3
  · exact (World.cell?_setCell_other _ _ _ _ (by simp)).trans c4
  · exact World.cell?_setCell_same _ _ _ c5
  · exact (World.cell?_setCell_other _ _ _ _ (by simp)).trans c6
  · exact (World.cell?_setCell_other _ _ _ _ (by simp)).trans c7
theorem C8.set6 {w : World} {b : Nat} {v0 v1 v2 v3 v4 v5 v6 v7 : Value} (u : Value) (h : C8 w b v0 v1 v2 v3 v4 v5 v6 v7) : C8 (w.setCell ⟨b, 6, none⟩ u) b v0 v1 v2 v3 v4 v5 u v7 := by
  obtain ⟨⟨c0, c1, c2, c3, c4, c5, c6, c7⟩, f⟩ := h
  refine ⟨⟨?_, ?_, ?_, ?_, ?_, ?_, ?_, ?_⟩, by simpa only [World.frozen?_setCell] using f⟩
  · exact (World.cell?_setCell_other _ _ _ _ (by simp)).trans c0
  · exact (World.cell?_setCell_other _ _ _ _ (by simp)).trans c1
  · exact (World.cell?_setCell_other _ _ _ _ (by simp)).trans c2
  · exact (World.cell?_setCell_other _ _ _ _ (by simp)).trans c3
  · exact (World.cell?_setCell_other _ _ _ _ (by simp)).trans c4
  · exact (World.cell?_setCell_other _ _ _ _ (by simp)).trans c5
  · exact World.cell?_setCell_same _ _ _ c6
  · exact (World.cell?_setCell_other _ _ _ _ (by simp)).trans c7
theorem C8.set7 {w : World} {b : Nat} {v0 v1 v2 v3 v4 v5 v6 v7 : Value} (u : Value) (h : C8 w b v0 v1 v2 v3 v4 v5 v6 v7) : C8 (w.setCell ⟨b, 7, none⟩ u) b v0 v1 v2 v3 v4 v5 v6 u := by
  obtain ⟨⟨c0, c1, c2, c3, c4, c5, c6, c7⟩, f⟩ := h
  refine ⟨⟨?_, ?_, ?_, ?_, ?_, ?_, ?_, ?_⟩, by simpa only [World.frozen?_setCell] using f⟩
  · exact (World.cell?_setCell_other _ _ _ _ (by simp)).trans c0
  · exact (World.cell?_setCell_other _ _ _ _ (by simp)).trans c1
  · exact (World.cell?_setCell_other _ _ _ _ (by simp)).trans c2
  · exact (World.cell?_setCell_other _ _ _ _ (by simp)).trans c3
  · exact (World.cell?_setCell_other _ _ _ _ (by simp)).trans c4
  · exact (World.cell?_setCell_other _ _ _ _ (by simp)).trans c5
  · exact (World.cell?_setCell_other _ _ _ _ (by simp)).trans c6
  · exact World.cell?_setCell_same _ _ _ c7
theorem C8.far {w : World} {b : Nat} {v0 v1 v2 v3 v4 v5 v6 v7 : Value} (h : C8 w b v0 v1 v2 v3 v4 v5 v6 v7) {a : Addr} (ha : a.block ≠ b) (u : Value) : C8 (w.setCell a u) b v0 v1 v2 v3 v4 v5 v6 v7 := by
  obtain ⟨⟨c0, c1, c2, c3, c4, c5, c6, c7⟩, f⟩ := h
  have hc : ∀ o, (w.setCell a u).cell? ⟨b, o, none⟩ = w.cell? ⟨b, o, none⟩ := fun o => World.cell?_of_block (Below.heap_setCell _ _ _ _ (fun e => ha e.symm))
  exact ⟨⟨(hc 0).trans c0, (hc 1).trans c1, (hc 2).trans c2, (hc 3).trans c3, (hc 4).trans c4, (hc 5).trans c5, (hc 6).trans c6, (hc 7).trans c7⟩, by simpa only [World.frozen?_setCell] using f⟩
theorem Own.set {w : World} {d : Nat} {s : Value} {T : Tr d} {bs : List Nat} (h : Own w d s T bs) {a : Addr} (ha : ∀ b ∈ bs, b ≠ a.block) (u : Value) : Own (w.setCell a u) d s T bs :=
  h.frame (fun b hm => Below.heap_setCell _ _ _ _ (ha b hm))

end Go.Proofs.YthcgdhlemieboaaGreat
