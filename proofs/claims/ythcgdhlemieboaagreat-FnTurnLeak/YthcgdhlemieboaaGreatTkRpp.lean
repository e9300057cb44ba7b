/- Steps as they lie in memory, in blocks of which something is known; rows of them that may be appended to. -/
import Derived.Test.YthcgdhlemieboaaGreatTkTsh
import Derived.Test.YthcgdhlemieboaaGreatTkDpr
namespace Go.Proofs.YthcgdhlemieboaaGreat
open Go.RowKit
set_option linter.unusedSimpArgs false
set_option linter.unusedVariables false

def RepP (P : Nat → Prop) (w : World) : (d : Nat) → Value → Tr d → Prop
  | 0, s, _ => ∃ a c, s = .slice a 0 c
  | d + 1, s, (l : List (Pay × Tr d × Tr d)) => ∃ a c, s = .slice a l.length c ∧ l.length ≤ c ∧ c ≤ maxLen ∧
      (∀ i (hi : i < l.length), ∃ b off t e, a = some ⟨b, off, none⟩ ∧ P b ∧ StepAt w b (off + i * 8) l[i].1 t e ∧ RepP P w d t l[i].2.1 ∧ RepP P w d e l[i].2.2)
def LRepP (P : Nat → Prop) (w : World) (s : Value) (ls : List (Int × Int)) : Prop := ∃ a c, s = .slice a ls.length c ∧ ls.length ≤ c ∧ c ≤ maxLen ∧
  (∀ i (hi : i < ls.length), ∃ b off, a = some ⟨b, off, none⟩ ∧ P b ∧ w.cell? ⟨b, off + i * 2, none⟩ = some (.int .i64 ls[i].1) ∧ w.cell? ⟨b, off + i * 2 + 1, none⟩ = some (.int .i64 ls[i].2))

theorem RepP.rep {P : Nat → Prop} {w : World} : ∀ {d : Nat} {s : Value} {T : Tr d}, RepP P w d s T → Rep w d s T := by
  intro d
  induction d with
  | zero => exact fun h => h
  | succ d ih =>
    intro s (l : List (Pay × Tr d × Tr d)) h
    obtain ⟨a, c, rfl, hl, hc, hr⟩ := h
    refine ⟨a, c, rfl, hl, hc, fun i hi => ?_⟩
    obtain ⟨b, off, t, e, ha, _, h0, r1, r2⟩ := hr i hi
    exact ⟨b, off, t, e, ha, h0, ih r1, ih r2⟩
theorem RepP.slice {P : Nat → Prop} {w : World} {d : Nat} {s : Value} {T : Tr d} (h : RepP P w d s T) : ∃ a c, s = .slice a (ln d T) c := h.rep.slice
theorem stepAt_lt {w : World} {b off : Nat} {p : Pay} {t e : Value} (h : StepAt w b off p t e) : b < w.heap.size := World.block_lt_of_cell? w _ h.1
theorem stepAt_same {w w' : World} {b off : Nat} {p : Pay} {t e : Value} (hb : w'.heap[b]? = w.heap[b]?) (h : StepAt w b off p t e) : StepAt w' b off p t e := by
  have hc : ∀ o, w'.cell? ⟨b, o, none⟩ = w.cell? ⟨b, o, none⟩ := fun o => World.cell?_of_block hb
  obtain ⟨h0, h1, h2, h3, h4, h5, h6, h7⟩ := h
  exact ⟨(hc _).trans h0, (hc _).trans h1, (hc _).trans h2, (hc _).trans h3, (hc _).trans h4, (hc _).trans h5, (hc _).trans h6, (hc _).trans h7⟩
theorem RepP.frame {P P' : Nat → Prop} {w w' : World} (hb : ∀ b, P b → b < w.heap.size → w'.heap[b]? = w.heap[b]? ∧ P' b) : ∀ {d : Nat} {s : Value} {T : Tr d}, RepP P w d s T → RepP P' w' d s T := by
  intro d
  induction d with
  | zero => exact fun h => h
  | succ d ih =>
    intro s (l : List (Pay × Tr d × Tr d)) h
    obtain ⟨a, c, rfl, hl, hc, hr⟩ := h
    refine ⟨a, c, rfl, hl, hc, fun i hi => ?_⟩
    obtain ⟨b, off, t, e, ha, hp, h0, r1, r2⟩ := hr i hi
    have := hb b hp (stepAt_lt h0)
    exact ⟨b, off, t, e, ha, this.2, stepAt_same this.1 h0, ih r1, ih r2⟩
theorem LRepP.rep {P : Nat → Prop} {w : World} {s : Value} {ls : List (Int × Int)} (h : LRepP P w s ls) : LRep w s ls := by
  obtain ⟨a, c, rfl, hl, hc, hr⟩ := h
  refine ⟨a, c, rfl, hl, hc, fun i hi => ?_⟩
  obtain ⟨b, off, ha, _, h0, h1⟩ := hr i hi
  exact ⟨b, off, ha, h0, h1⟩
theorem LRepP.frame {P P' : Nat → Prop} {w w' : World} (hb : ∀ b, P b → b < w.heap.size → w'.heap[b]? = w.heap[b]? ∧ P' b) {s : Value} {ls : List (Int × Int)} (h : LRepP P w s ls) : LRepP P' w' s ls := by
  obtain ⟨a, c, rfl, hl, hc, hr⟩ := h
  refine ⟨a, c, rfl, hl, hc, fun i hi => ?_⟩
  obtain ⟨b, off, ha, hp, h0, h1⟩ := hr i hi
  have := hb b hp (World.block_lt_of_cell? w _ h0)
  exact ⟨b, off, ha, this.2, (World.cell?_of_block this.1).trans h0, (World.cell?_of_block this.1).trans h1⟩
theorem Own.repP {P : Nat → Prop} {w : World} : ∀ {d : Nat} {s : Value} {T : Tr d} {bs : List Nat}, Own w d s T bs → (∀ b ∈ bs, P b) → RepP P w d s T := by
  intro d
  induction d with
  | zero => exact fun h _ => h.1
  | succ d ih =>
    intro s (l : List (Pay × Tr d × Tr d)) bs h hb
    rcases h with ⟨h0, ⟨a, c, rfl, hc⟩, _⟩ | ⟨h0, g, c, parts, rfl, hlc, hcm, ht, hp, rfl, hr⟩
    · exact ⟨a, c, by rw [h0], by omega, hc, fun i hi => by omega⟩
    · refine ⟨_, c, rfl, hlc, hcm, fun i hi => ?_⟩
      obtain ⟨t, e, b1, b2, hq, hra, o1, o2⟩ := hr i hi
      have hm : ∀ b ∈ b1 ++ b2, b ∈ parts.flatten := fun b hbm => List.mem_flatten.2 ⟨_, List.mem_of_getElem? hq, hbm⟩
      exact ⟨g, 0, t, e, rfl, hb g (by simp), by rw [Nat.zero_add]; exact range8 hra, ih o1 (fun b h => hb b (List.mem_cons_of_mem _ (hm b (List.mem_append_left _ h)))), ih o2 (fun b h => hb b (List.mem_cons_of_mem _ (hm b (List.mem_append_right _ h))))⟩
theorem RepP.zero {P : Nat → Prop} {w : World} {d : Nat} : ∀ (T : Tr d), ln d T = 0 → RepP P w d (.slice none 0 0) T := by
  cases d with
  | zero => exact fun _ _ => ⟨none, 0, rfl⟩
  | succ d =>
    intro (l : List (Pay × Tr d × Tr d)) hl
    have hl' : l.length = 0 := hl
    exact ⟨none, 0, by rw [hl'], by omega, by unfold maxLen; omega, fun i hi => by omega⟩
def noT : (d : Nat) → Tr d
  | 0 => ()
  | d + 1 => ([] : List (Pay × Tr d × Tr d))
theorem ln_noT : ∀ d, ln d (noT d) = 0
  | 0 => rfl
  | _ + 1 => rfl
theorem cnt_noT : ∀ d, cnt d (noT d) = 0
  | 0 => rfl
  | _ + 1 => rfl
def upT : (d : Nat) → Tr d → Tr (d + 1)
  | 0, _ => ([] : List (Pay × Tr 0 × Tr 0))
  | d + 1, (l : List (Pay × Tr d × Tr d)) => (l.map fun x => (x.1, upT d x.2.1, upT d x.2.2) : List (Pay × Tr (d + 1) × Tr (d + 1)))

def RowP (P : Nat → Prop) (w : World) (d : Nat) (v : Value) (l : List (Pay × Tr d × Tr d)) (ys : List Value) : Prop :=
  w.ownsRow 0 66 8 v l.length ys ∧ (∀ k, v.ownBlock = some k → P k) ∧
  ∀ q (hq : q < l.length), ∃ t e, (∀ j, j < 8 → ys[q * 8 + j]? = (cells8 l[q].1 t e)[j]?) ∧ RepP (fun b => P b ∧ some b ≠ v.ownBlock) w d t l[q].2.1 ∧ RepP (fun b => P b ∧ some b ≠ v.ownBlock) w d e l[q].2.2
theorem rowp_zero {w : World} {base : Nat} {e : TypeId} {size : Nat} {v : Value} {n : Nat} {xs : List Value} (h : w.ownsRow base e size v n xs) : w.ownsRow 0 e size v n xs :=
  ⟨h.1, h.2.imp id fun ⟨g, cap, cur, hv, _, hr⟩ => ⟨g, cap, cur, hv, Nat.zero_le _, hr⟩⟩
theorem rowp_frame {w w' : World} {base : Nat} {e : TypeId} {size : Nat} {v : Value} {n : Nat} {xs : List Value} (h : w.ownsRow base e size v n xs) (hb : ∀ k, v.ownBlock = some k → w'.heap[k]? = w.heap[k]?) : w'.ownsRow base e size v n xs :=
  ⟨h.1, h.2.imp id fun ⟨g, cap, cur, hv, hg, hh, hr⟩ => ⟨g, cap, cur, hv, hg, by rw [hb g (by rw [hv]; rfl)]; exact hh, hr⟩⟩
theorem RowP.frame {P P' : Nat → Prop} {w w' : World} {d : Nat} {v : Value} {l : List (Pay × Tr d × Tr d)} {ys : List Value} (h : RowP P w d v l ys) (hb : ∀ b, P b → b < w.heap.size → w'.heap[b]? = w.heap[b]? ∧ P' b) : RowP P' w' d v l ys := by
  obtain ⟨ho, hX, hq⟩ := h
  refine ⟨rowp_frame ho (fun k hk => (hb k (hX k hk) (World.ownsRow.lt ho k hk).2).1), fun k hk => (hb k (hX k hk) (World.ownsRow.lt ho k hk).2).2, fun q hql => ?_⟩
  obtain ⟨t, e, h1, h2, h3⟩ := hq q hql
  exact ⟨t, e, h1, h2.frame fun b ⟨p1, p2⟩ hl => ⟨(hb b p1 hl).1, (hb b p1 hl).2, p2⟩, h3.frame fun b ⟨p1, p2⟩ hl => ⟨(hb b p1 hl).1, (hb b p1 hl).2, p2⟩⟩
theorem RowP.repP {P : Nat → Prop} {w : World} {d : Nat} {v : Value} {l : List (Pay × Tr d × Tr d)} {ys : List Value} (h : RowP P w d v l ys) : RepP P w (d + 1) v (l : List (Pay × Tr d × Tr d)) := by
  obtain ⟨ho, hX, hq⟩ := h
  obtain ⟨h0, ⟨hv, hn⟩ | ⟨g, cap, cur, hv, hg, hh, hc, hm, hs, ht⟩⟩ := id ho
  · subst hv
    exact ⟨none, 0, by rw [hn], by omega, by unfold maxLen; omega, fun i hi => by omega⟩
  · subst hv
    refine ⟨_, cap, rfl, hc, hm, fun i hi => ?_⟩
    obtain ⟨t, e, h1, h2, h3⟩ := hq i hi
    exact ⟨g, 0, t, e, rfl, hX g rfl, by rw [Nat.zero_add]; exact row_cells ho h1, h2.frame fun b p _ => ⟨rfl, p.1⟩, h3.frame fun b p _ => ⟨rfl, p.1⟩⟩
theorem RowP.push {P : Nat → Prop} {w w' : World} {d : Nat} {v v' : Value} {l : List (Pay × Tr d × Tr d)} {ys : List Value} (h : RowP P w d v l ys) (hP : P w.heap.size)
    (x : Pay × Tr d × Tr d) {t e : Value} (ho : w'.ownsRow 0 66 8 v' (l.length + 1) (ys ++ cells8 x.1 t e)) (hg : w.grownBy w' v.ownBlock) (hv : v'.ownBlock = v.ownBlock ∨ v'.ownBlock = some w.heap.size)
    (o1 : RepP (fun b => P b ∧ some b ≠ v.ownBlock) w d t x.2.1) (o2 : RepP (fun b => P b ∧ some b ≠ v.ownBlock) w d e x.2.2) : RowP P w' d v' (l ++ [x]) (ys ++ cells8 x.1 t e) := by
  obtain ⟨h0, hx, hq⟩ := h
  have yl : ys.length = l.length * 8 := h0.1
  have key : ∀ b, (P b ∧ some b ≠ v.ownBlock) → b < w.heap.size → w'.heap[b]? = w.heap[b]? ∧ (P b ∧ some b ≠ v'.ownBlock) := fun b ⟨k2, k3⟩ k1 =>
    ⟨hg.block b k1 k3, k2, fun hh => by
      rcases hv with hv | hv
      · exact k3 (hh.trans hv)
      · rw [hv] at hh; have := Option.some.inj hh; omega⟩
  refine ⟨by rw [List.length_append]; exact ho, fun k hk => ?_, fun q hql => ?_⟩
  · rcases hv with hv | hv
    · exact hx k (hv.symm.trans hk)
    · rw [hv] at hk
      have := Option.some.inj hk
      subst this
      exact hP
  · by_cases hlt : q < l.length
    · obtain ⟨t', e', k1, k2, k3⟩ := hq q hlt
      rw [List.getElem_append_left hlt]
      refine ⟨t', e', fun j hj => ?_, k2.frame key, k3.frame key⟩
      rw [List.getElem?_append_left (by omega)]
      exact k1 j hj
    · have hqe : q = l.length := by simp at hql; omega
      subst hqe
      rw [List.getElem_append_right (Nat.le_refl _)]
      simp only [Nat.sub_self, List.getElem_cons_zero]
      refine ⟨t, e, fun j hj => ?_, o1.frame key, o2.frame key⟩
      rw [List.getElem?_append_right (by omega), yl, show l.length * 8 + j - l.length * 8 = j by omega]
theorem RowP.of {P : Nat → Prop} {w : World} {base : Nat} {d : Nat} {v : Value} {l : List (Pay × Tr d × Tr d)} {bs : List Nat} {ys : List Value} (h : Own w (d + 1) v (l : List (Pay × Tr d × Tr d)) bs) (hn : bs.Nodup) (ho : w.ownsRow base 66 8 v l.length ys)
    (hb : ∀ b ∈ bs, P b) (hv : ∀ k, v.ownBlock = some k → P k) : RowP P w d v l ys := by
  refine ⟨rowp_zero ho, hv, fun q hq => ?_⟩
  rcases h with ⟨h0, _⟩ | ⟨h0, g, c, parts, rfl, hlc, hcm, ht, hp, rfl, hr⟩
  · omega
  · obtain ⟨t, e, b1, b2, hq1, hra, o1, o2⟩ := hr q hq
    have hm : ∀ b ∈ b1 ++ b2, b ∈ parts.flatten := fun b hbm => List.mem_flatten.2 ⟨_, List.mem_of_getElem? hq1, hbm⟩
    have key : ∀ b ∈ b1 ++ b2, P b ∧ some b ≠ (Value.slice (some ⟨g, 0, none⟩) l.length c).ownBlock := fun b hbm =>
      ⟨hb b (List.mem_cons_of_mem _ (hm b hbm)), fun hh => (List.nodup_cons.1 hn).1 (by have := Option.some.inj hh; simp at this; rw [← this]; exact hm b hbm)⟩
    refine ⟨t, e, fun j hj => ?_, o1.repP fun b h => key b (List.mem_append_left _ h), o2.repP fun b h => key b (List.mem_append_right _ h)⟩
    have yl : ys.length = l.length * 8 := ho.1
    have h1 : q * 8 + j < ys.length := by omega
    have h2 := ho.cells rfl (q * 8 + j) _ (List.getElem?_eq_getElem h1)
    rw [Addr.add_mid, Nat.zero_add] at h2
    have h3 : j < (cells8 l[q].1 t e).length := hj
    have h4 := hra j _ (List.getElem?_eq_getElem h3)
    rw [List.getElem?_eq_getElem h1, List.getElem?_eq_getElem h3]
    exact h2.symm.trans h4

end Go.Proofs.YthcgdhlemieboaaGreat
