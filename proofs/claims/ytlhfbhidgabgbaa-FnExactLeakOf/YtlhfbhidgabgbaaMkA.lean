/- Steps that are marked with numbers, one behind the other. -/
import Derived.Test.YtlhfbhidgabgbaaToC
namespace Go.Proofs.Ytlhfbhidgabgbaa
open Go.RowKit
set_option linter.unusedSimpArgs false
set_option linter.unusedVariables false

def mkP (k : Int) : Pay := ⟨k, k + 1, k + 2, k + 3, k + 4, k + 5⟩
def mkL {α : Type} (f : Int → α → α) (c : α → Nat) : Int → List (Pay × α × α) → List (Pay × α × α)
  | _, [] => []
  | k, x :: r => (mkP k, f (k + 6) x.2.1, f (k + 6 + 6 * c x.2.1) x.2.2) :: mkL f c (k + 6 + 6 * c x.2.1 + 6 * c x.2.2) r
/-- Steps with numbers in the place of all that they hold beside steps. -/
def mkT : (d : Nat) → Int → Tr d → Tr d
  | 0, _, T => T
  | d + 1, k, (l : List (Pay × Tr d × Tr d)) => mkL (mkT d) (cnt d) k l
theorem mkL_length {α : Type} (f : Int → α → α) (c : α → Nat) : ∀ (l : List (Pay × α × α)) (k : Int), (mkL f c k l).length = l.length
  | [], _ => rfl
  | x :: r, k => by simp [mkL, mkL_length f c r]
theorem mkL_get {d : Nat} (f : Int → Tr d → Tr d) : ∀ (l : List (Pay × Tr d × Tr d)) (k : Int) (i : Nat) (hi : i < l.length) (hi' : i < (mkL f (cnt d) k l).length),
    (mkL f (cnt d) k l)[i] = (mkP (k + 6 * (cnt (d + 1) (l.take i : List (Pay × Tr d × Tr d)) : Nat)), f (k + 6 * (cnt (d + 1) (l.take i : List (Pay × Tr d × Tr d)) : Nat) + 6) l[i].2.1, f (k + 6 * (cnt (d + 1) (l.take i : List (Pay × Tr d × Tr d)) : Nat) + 6 + 6 * cnt d l[i].2.1) l[i].2.2)
  | x :: r, k, 0, hi, hi' => by
    show (mkP k, f (k + 6) x.2.1, f (k + 6 + 6 * cnt d x.2.1) x.2.2) = (mkP (k + 6 * (0 : Nat)), f (k + 6 * (0 : Nat) + 6) x.2.1, f (k + 6 * (0 : Nat) + 6 + 6 * cnt d x.2.1) x.2.2)
    simp
  | x :: r, k, i + 1, hi, hi' => by
    have hr : i < r.length := by simpa using hi
    have := mkL_get f r (k + 6 + 6 * cnt d x.2.1 + 6 * cnt d x.2.2) i hr (by rw [mkL_length]; exact hr)
    have hc : cnt (d + 1) ((x :: r).take (i + 1) : List (Pay × Tr d × Tr d)) = 1 + cnt d x.2.1 + cnt d x.2.2 + cnt (d + 1) (r.take i : List (Pay × Tr d × Tr d)) := by
      show (((x :: r).take (i + 1)).map _).sum = _ + ((r.take i).map _).sum
      simp
    simp only [mkL, List.getElem_cons_succ]
    rw [this, hc]
    have e : k + 6 + 6 * (cnt d x.2.1 : Int) + 6 * (cnt d x.2.2 : Int) + 6 * ((cnt (d + 1) (r.take i : List (Pay × Tr d × Tr d)) : Nat) : Int) = k + 6 * ((1 + cnt d x.2.1 + cnt d x.2.2 + cnt (d + 1) (r.take i : List (Pay × Tr d × Tr d)) : Nat) : Int) := by omega
    rw [e]
theorem mkT_cnt : ∀ (d : Nat) (k : Int) (T : Tr d), cnt d (mkT d k T) = cnt d T
  | 0, _, _ => rfl
  | d + 1, k, (l : List (Pay × Tr d × Tr d)) => by
    show ((mkL (mkT d) (cnt d) k l).map fun x => 1 + cnt d x.2.1 + cnt d x.2.2).sum = (l.map fun x => 1 + cnt d x.2.1 + cnt d x.2.2).sum
    induction l generalizing k with
    | nil => rfl
    | cons x r ih => simp [mkL, mkT_cnt d, ih]

/-- All blocks but these are as they were. -/
structure Fr (bs : List Nat) (w w' : World) : Prop where
  os : w'.os = w.os
  tape : w'.tape = w.tape
  output : w'.output = w.output
  size : w'.heap.size = w.heap.size
  block : ∀ b, b ∉ bs → w'.heap[b]? = w.heap[b]?
theorem Fr.refl (bs : List Nat) (w : World) : Fr bs w w := ⟨rfl, rfl, rfl, rfl, fun _ _ => rfl⟩
theorem Fr.trans {bs : List Nat} {a b c : World} (h : Fr bs a b) (k : Fr bs b c) : Fr bs a c := ⟨k.os.trans h.os, k.tape.trans h.tape, k.output.trans h.output, k.size.trans h.size, fun i hi => (k.block i hi).trans (h.block i hi)⟩
theorem Fr.mono {bs cs : List Nat} {a b : World} (h : Fr bs a b) (hs : ∀ x ∈ bs, x ∈ cs) : Fr cs a b := ⟨h.os, h.tape, h.output, h.size, fun i hi => h.block i (fun hm => hi (hs i hm))⟩
theorem Fr.setCell {bs : List Nat} {a w : World} (h : Fr bs a w) {p : Addr} (hp : p.block ∈ bs) (u : Value) : Fr bs a (w.setCell p u) :=
  h.trans ⟨rfl, rfl, rfl, by simp [World.setCell], fun b hb => Below.heap_setCell _ _ _ _ (fun e => hb (e ▸ hp))⟩
theorem Fr.drew {bs : List Nat} {a w : World} (h : Fr bs a w) : Fr bs a w.drew := ⟨h.os, h.tape, h.output, h.size, h.block⟩
theorem Fr.below {bs : List Nat} {B : Nat} {w w' : World} (h : Fr bs w w') (hB : ∀ b ∈ bs, B ≤ b) : Below B w w' := ⟨h.os, h.tape, h.output, by rw [h.size]; exact Nat.le_refl _, fun k hk => h.block k (fun hm => by have := hB k hm; omega)⟩

def st6 (w : World) (g o : Nat) (k : Int) : World :=
  (((((w.setCell ⟨g, o, none⟩ (.int .i64 k)).setCell ⟨g, o + 1, none⟩ (.int .i64 (k + 1))).setCell ⟨g, o + 2, none⟩ (.int .i64 (k + 2))).setCell ⟨g, o + 3, none⟩ (.int .i64 (k + 3))).setCell ⟨g, o + 4, none⟩ (.int .i64 (k + 4))).setCell ⟨g, o + 5, none⟩ (.int .i64 (k + 5))
theorem st6_at {w : World} {g o : Nat} {p : Pay} {t e : Value} (k : Int) (h : StepAt w g o p t e) : StepAt (st6 w g o k) g o (mkP k) t e := by
  obtain ⟨c0, c1, c2, c3, c4, c5, c6, c7⟩ := h
  unfold st6 mkP
  have O : ∀ (w : World) (i j : Nat) (v u : Value), i ≠ j → w.cell? ⟨g, j, none⟩ = some u → (w.setCell ⟨g, i, none⟩ v).cell? ⟨g, j, none⟩ = some u := fun w i j v u hij hc => (World.cell?_setCell_other _ _ _ _ (by simp [hij])).trans hc
  have S : ∀ (w : World) (i : Nat) (v u : Value), w.cell? ⟨g, i, none⟩ = some u → (w.setCell ⟨g, i, none⟩ v).cell? ⟨g, i, none⟩ = some v := fun w i v u hc => World.cell?_setCell_same _ _ _ hc
  refine ⟨?_, ?_, ?_, ?_, ?_, ?_, ?_, ?_⟩
  · exact O _ _ _ _ _ (by omega) (O _ _ _ _ _ (by omega) (O _ _ _ _ _ (by omega) (O _ _ _ _ _ (by omega) (O _ _ _ _ _ (by omega) (S _ _ _ _ c0)))))
  · exact O _ _ _ _ _ (by omega) (O _ _ _ _ _ (by omega) (O _ _ _ _ _ (by omega) (O _ _ _ _ _ (by omega) (S _ _ _ _ (O _ _ _ _ _ (by omega) c1)))))
  · exact O _ _ _ _ _ (by omega) (O _ _ _ _ _ (by omega) (O _ _ _ _ _ (by omega) (S _ _ _ _ (O _ _ _ _ _ (by omega) (O _ _ _ _ _ (by omega) c2)))))
  · exact O _ _ _ _ _ (by omega) (O _ _ _ _ _ (by omega) (S _ _ _ _ (O _ _ _ _ _ (by omega) (O _ _ _ _ _ (by omega) (O _ _ _ _ _ (by omega) c3)))))
  · exact O _ _ _ _ _ (by omega) (S _ _ _ _ (O _ _ _ _ _ (by omega) (O _ _ _ _ _ (by omega) (O _ _ _ _ _ (by omega) (O _ _ _ _ _ (by omega) c4)))))
  · exact S _ _ _ _ (O _ _ _ _ _ (by omega) (O _ _ _ _ _ (by omega) (O _ _ _ _ _ (by omega) (O _ _ _ _ _ (by omega) (O _ _ _ _ _ (by omega) c5)))))
  · exact O _ _ _ _ _ (by omega) (O _ _ _ _ _ (by omega) (O _ _ _ _ _ (by omega) (O _ _ _ _ _ (by omega) (O _ _ _ _ _ (by omega) (O _ _ _ _ _ (by omega) c6)))))
  · exact O _ _ _ _ _ (by omega) (O _ _ _ _ _ (by omega) (O _ _ _ _ _ (by omega) (O _ _ _ _ _ (by omega) (O _ _ _ _ _ (by omega) (O _ _ _ _ _ (by omega) c7)))))
theorem st6_range {w : World} {g o o' : Nat} {cs : List Value} (k : Int) (h : w.rangeAt g o' cs) (hap : o' + cs.length ≤ o ∨ o + 6 ≤ o') : (st6 w g o k).rangeAt g o' cs := by
  unfold st6
  refine World.rangeAt_setCells_apart (World.rangeAt_setCells_apart (World.rangeAt_setCells_apart (World.rangeAt_setCells_apart (World.rangeAt_setCells_apart (World.rangeAt_setCells_apart h g o [.int .i64 k] ?_) g (o + 1) [.int .i64 (k + 1)] ?_) g (o + 2) [.int .i64 (k + 2)] ?_) g (o + 3) [.int .i64 (k + 3)] ?_) g (o + 4) [.int .i64 (k + 4)] ?_) g (o + 5) [.int .i64 (k + 5)] ?_
  all_goals (right; simp only [List.length_cons, List.length_nil]; omega)
theorem st6_there {w : World} {g o b' o' n : Nat} (k : Int) (h : w.there b' o' n) : (st6 w g o k).there b' o' n :=
  World.there_setCells (World.there_setCells (World.there_setCells (World.there_setCells (World.there_setCells (World.there_setCells h g o [.int .i64 k]) g (o + 1) [.int .i64 (k + 1)]) g (o + 2) [.int .i64 (k + 2)]) g (o + 3) [.int .i64 (k + 3)]) g (o + 4) [.int .i64 (k + 4)]) g (o + 5) [.int .i64 (k + 5)]
theorem st6_fr (w : World) (g o : Nat) (k : Int) : Fr [g] w (st6 w g o k) :=
  ((((((Fr.refl [g] w).setCell (p := ⟨g, o, none⟩) (by simp) _).setCell (p := ⟨g, o + 1, none⟩) (by simp) _).setCell (p := ⟨g, o + 2, none⟩) (by simp) _).setCell (p := ⟨g, o + 3, none⟩) (by simp) _).setCell (p := ⟨g, o + 4, none⟩) (by simp) _).setCell (p := ⟨g, o + 5, none⟩) (by simp) _
theorem range_at {w : World} {g o : Nat} {p : Pay} {t e : Value} (h : StepAt w g o p t e) : w.rangeAt g o (cells8 p t e) := by
  obtain ⟨c0, c1, c2, c3, c4, c5, c6, c7⟩ := h
  intro j v hv
  match j, hv with
  | 0, hv => cases hv; exact c0
  | 1, hv => cases hv; exact c1
  | 2, hv => cases hv; exact c2
  | 3, hv => cases hv; exact c3
  | 4, hv => cases hv; exact c4
  | 5, hv => cases hv; exact c5
  | 6, hv => cases hv; exact c6
  | 7, hv => cases hv; exact c7
  | (j + 8), hv => simp [cells8] at hv

end Go.Proofs.Ytlhfbhidgabgbaa
