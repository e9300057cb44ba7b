/- Rows of steps that may be appended to, with what lies in them. -/
import Derived.Test.YtpcmhkcahajdgaaAtP
import Derived.Test.YtpcmhkcahajdgaaDpr
namespace Go.Proofs.Ytpcmhkcahajdgaa
open Go.RowKit
set_option linter.unusedSimpArgs false
set_option linter.unusedVariables false

/-- A row of steps that may be appended to; all blocks of it but for its own are in no block of X. -/
def RowS (w : World) (X : List Nat) (d : Nat) (v : Value) (l : List (Pay × Tr d × Tr d)) (ys : List Value) : Prop :=
  w.ownsRow 0 34 8 v l.length ys ∧ (∀ k, v.ownBlock = some k → k ∉ X) ∧
  ∀ q (hq : q < l.length), ∃ t e b1 b2, (∀ j, j < 8 → ys[q * 8 + j]? = (cells8 l[q].1 t e)[j]?) ∧ Own w d t l[q].2.1 b1 ∧ Own w d e l[q].2.2 b2 ∧ ∀ b ∈ b1 ++ b2, b < w.heap.size ∧ b ∉ X ∧ some b ≠ v.ownBlock

theorem row_zero {w : World} {base : Nat} {e : TypeId} {size : Nat} {v : Value} {n : Nat} {xs : List Value} (h : w.ownsRow base e size v n xs) : w.ownsRow 0 e size v n xs :=
  ⟨h.1, h.2.imp id fun ⟨g, cap, cur, hv, _, hr⟩ => ⟨g, cap, cur, hv, Nat.zero_le _, hr⟩⟩
theorem row_frame {w w' : World} {base : Nat} {e : TypeId} {size : Nat} {v : Value} {n : Nat} {xs : List Value} (h : w.ownsRow base e size v n xs) (hb : ∀ k, v.ownBlock = some k → w'.heap[k]? = w.heap[k]?) : w'.ownsRow base e size v n xs :=
  ⟨h.1, h.2.imp id fun ⟨g, cap, cur, hv, hg, hh, hr⟩ => ⟨g, cap, cur, hv, hg, by rw [hb g (by rw [hv]; rfl)]; exact hh, hr⟩⟩

theorem RowS.frame {w w' : World} {X : List Nat} {d : Nat} {v : Value} {l : List (Pay × Tr d × Tr d)} {ys : List Value} (h : RowS w X d v l ys) (hs : w.heap.size ≤ w'.heap.size) (hb : ∀ b, b < w.heap.size → b ∉ X → w'.heap[b]? = w.heap[b]?) : RowS w' X d v l ys := by
  obtain ⟨ho, hX, hq⟩ := h
  refine ⟨row_frame ho (fun k hk => hb k (World.ownsRow.lt ho k hk).2 (hX k hk)), hX, fun q hql => ?_⟩
  obtain ⟨t, e, b1, b2, h1, h2, h3, h4⟩ := hq q hql
  refine ⟨t, e, b1, b2, h1, h2.frame fun b hm => ?_, h3.frame fun b hm => ?_, fun b hm => ?_⟩
  · have := h4 b (List.mem_append_left _ hm); exact hb b this.1 this.2.1
  · have := h4 b (List.mem_append_right _ hm); exact hb b this.1 this.2.1
  · have := h4 b hm; exact ⟨by omega, this.2.1, this.2.2⟩

theorem RowS.rep {w : World} {X : List Nat} {d : Nat} {v : Value} {l : List (Pay × Tr d × Tr d)} {ys : List Value} (h : RowS w X d v l ys) : Rep w (d + 1) v (l : List (Pay × Tr d × Tr d)) := by
  obtain ⟨ho, hX, hq⟩ := h
  obtain ⟨h0, ⟨hv, hn⟩ | ⟨g, cap, cur, hv, hg, hh, hc, hm, hs, ht⟩⟩ := id ho
  · subst hv
    exact ⟨none, 0, by rw [hn], by omega, by unfold maxLen; omega, fun i hi => by omega⟩
  · subst hv
    refine ⟨_, cap, rfl, hc, hm, fun i hi => ?_⟩
    obtain ⟨t, e, b1, b2, h1, h2, h3, h4⟩ := hq i hi
    exact ⟨g, 0, t, e, rfl, by rw [Nat.zero_add]; exact row_cells ho h1, h2.rep, h3.rep⟩

/-- One step more. -/
theorem RowS.push {w w' : World} {X : List Nat} {d : Nat} {v v' : Value} {l : List (Pay × Tr d × Tr d)} {ys : List Value} (h : RowS w X d v l ys) (hX : ∀ x ∈ X, x < w.heap.size)
    (x : Pay × Tr d × Tr d) {t e : Value} (ho : w'.ownsRow 0 34 8 v' (l.length + 1) (ys ++ cells8 x.1 t e)) (hg : w.grownBy w' v.ownBlock) (hv : v'.ownBlock = v.ownBlock ∨ v'.ownBlock = some w.heap.size)
    (b1 b2 : List Nat) (o1 : Own w d t x.2.1 b1) (o2 : Own w d e x.2.2 b2) (hb : ∀ b ∈ b1 ++ b2, b < w.heap.size ∧ b ∉ X ∧ some b ≠ v.ownBlock) : RowS w' X d v' (l ++ [x]) (ys ++ cells8 x.1 t e) := by
  obtain ⟨h0, hx, hq⟩ := h
  have yl : ys.length = l.length * 8 := h0.1
  have key : ∀ b, (b < w.heap.size ∧ b ∉ X ∧ some b ≠ v.ownBlock) → w'.heap[b]? = w.heap[b]? ∧ (b < w'.heap.size ∧ b ∉ X ∧ some b ≠ v'.ownBlock) := fun b ⟨k1, k2, k3⟩ =>
    ⟨hg.block b k1 k3, by have := hg.size; omega, k2, fun hh => by
      rcases hv with hv | hv
      · exact k3 (hh.trans hv)
      · rw [hv] at hh; have := Option.some.inj hh; omega⟩
  refine ⟨by rw [List.length_append]; exact ho, fun k hk => ?_, fun q hql => ?_⟩
  · rcases hv with hv | hv
    · exact hx k (hv.symm.trans hk)
    · rw [hv] at hk
      have := Option.some.inj hk
      intro hm
      have := hX k hm
      omega
  · by_cases hlt : q < l.length
    · obtain ⟨t', e', c1, c2, k1, k2, k3, k4⟩ := hq q hlt
      rw [List.getElem_append_left hlt]
      refine ⟨t', e', c1, c2, fun j hj => ?_, k2.frame fun b hm => (key b (k4 b (List.mem_append_left _ hm))).1, k3.frame fun b hm => (key b (k4 b (List.mem_append_right _ hm))).1, fun b hm => (key b (k4 b hm)).2⟩
      rw [List.getElem?_append_left (by omega)]
      exact k1 j hj
    · have hqe : q = l.length := by simp at hql; omega
      subst hqe
      rw [List.getElem_append_right (Nat.le_refl _)]
      simp only [Nat.sub_self, List.getElem_cons_zero]
      refine ⟨t, e, b1, b2, fun j hj => ?_, o1.frame fun b hm => (key b (hb b (List.mem_append_left _ hm))).1, o2.frame fun b hm => (key b (hb b (List.mem_append_right _ hm))).1, fun b hm => (key b (hb b hm)).2⟩
      rw [List.getElem?_append_right (by omega), yl, show l.length * 8 + j - l.length * 8 = j by omega]

/-- Steps of their own, whose row may be appended to. -/
theorem RowS.of {w : World} {base : Nat} {d : Nat} {v : Value} {l : List (Pay × Tr d × Tr d)} {bs : List Nat} {ys : List Value} (h : Own w (d + 1) v (l : List (Pay × Tr d × Tr d)) bs) (hn : bs.Nodup) (ho : w.ownsRow base 34 8 v l.length ys) (X : List Nat)
    (hb : ∀ b ∈ bs, b < w.heap.size ∧ b ∉ X) (hv : ∀ k, v.ownBlock = some k → k ∉ X) : RowS w X d v l ys := by
  refine ⟨row_zero ho, hv, fun q hq => ?_⟩
  rcases h with ⟨h0, _⟩ | ⟨h0, g, c, parts, rfl, hlc, hcm, ht, hp, rfl, hr⟩
  · omega
  · obtain ⟨t, e, b1, b2, hq1, hra, o1, o2⟩ := hr q hq
    have hm : ∀ b ∈ b1 ++ b2, b ∈ parts.flatten := fun b hbm => List.mem_flatten.2 ⟨_, List.mem_of_getElem? hq1, hbm⟩
    refine ⟨t, e, b1, b2, fun j hj => ?_, o1, o2, fun b hbm => ?_⟩
    · have yl : ys.length = l.length * 8 := ho.1
      have h1 : q * 8 + j < ys.length := by omega
      have h2 := ho.cells rfl (q * 8 + j) _ (List.getElem?_eq_getElem h1)
      rw [Addr.add_mid, Nat.zero_add] at h2
      have h3 : j < (cells8 l[q].1 t e).length := hj
      have h4 := hra j _ (List.getElem?_eq_getElem h3)
      rw [List.getElem?_eq_getElem h1, List.getElem?_eq_getElem h3]
      exact h2.symm.trans h4
    · have := hb b (List.mem_cons_of_mem _ (hm b hbm))
      exact ⟨this.1, this.2, fun hh => (List.nodup_cons.1 hn).1 (by have := Option.some.inj hh; simp at this; rw [← this]; exact hm b hbm)⟩

end Go.Proofs.Ytpcmhkcahajdgaa
