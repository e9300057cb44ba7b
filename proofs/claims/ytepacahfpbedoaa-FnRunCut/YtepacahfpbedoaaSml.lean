/- Small programs that laws build: two steps, or one that does others. -/
import Derived.Test.YtepacahfpbedoaaSrn
import Derived.Test.YtepacahfpbedoaaLcx
import Derived.Test.YtepacahfpbedoaaRpp
namespace Go.Proofs.Ytepacahfpbedoaa
open Go.RowKit
set_option linter.unusedSimpArgs false
set_option linter.unusedVariables false

/-- Two steps, of which each holds none. -/
def twoS (p q : Pay) : Tr 1 := ([(p, (), ()), (q, (), ())] : List (Pay × Tr 0 × Tr 0))
def pA (M : Int) : Pay := ⟨1, 0, 1, M, 0, 0⟩
def pB : Pay := ⟨1, 1, 2, 1, 0, 0⟩
theorem rep_two (w : World) (p q : Pay) (T : TypeId) : Rep (w.alloc (.cells #[.int .i64 p.k, .int .i64 p.v, .int .i64 p.vk, .int .i64 p.va, .int .i64 p.vb, .int .i64 p.h, .slice none 0 0, .slice none 0 0, .int .i64 q.k, .int .i64 q.v, .int .i64 q.vk, .int .i64 q.va, .int .i64 q.vb, .int .i64 q.h, .slice none 0 0, .slice none 0 0] T)) 1 (.slice (some ⟨w.heap.size, 0, none⟩) 2 2) (twoS p q) := by
  refine ⟨_, 2, rfl, Nat.le_refl _, by unfold maxLen; omega, fun i hi => ?_⟩
  match i, hi with
  | 0, _ => exact ⟨w.heap.size, 0, .slice none 0 0, .slice none 0 0, rfl, ⟨by first | (simp; done) | (simp; rfl), by first | (simp; done) | (simp; rfl), by first | (simp; done) | (simp; rfl), by first | (simp; done) | (simp; rfl), by first | (simp; done) | (simp; rfl), by first | (simp; done) | (simp; rfl), by first | (simp; done) | (simp; rfl), by first | (simp; done) | (simp; rfl)⟩, ⟨none, 0, rfl⟩, ⟨none, 0, rfl⟩⟩
  | 1, _ => exact ⟨w.heap.size, 0, .slice none 0 0, .slice none 0 0, rfl, ⟨by first | (simp; done) | (simp; rfl), by first | (simp; done) | (simp; rfl), by first | (simp; done) | (simp; rfl), by first | (simp; done) | (simp; rfl), by first | (simp; done) | (simp; rfl), by first | (simp; done) | (simp; rfl), by first | (simp; done) | (simp; rfl), by first | (simp; done) | (simp; rfl)⟩, ⟨none, 0, rfl⟩, ⟨none, 0, rfl⟩⟩
theorem swap_ok {ls : List (Int × Int)} {zs : List Int} {M : Int} (hl : ls.length ≤ 4) (hb : labsB ls = true) (h2 : 2 ≤ ls.length) (hz : zs.length = ls.length) (ht : tenB zs = true) (h0 : 0 ≤ M ∧ M < 10) : numsB ls 1 (twoS (pA M) pB) zs = true ∧ numsB ls 1 (twoS pB (pA M)) zs = true := by
  have a1 : (0 : Int) < (ls.length : Int) := by omega
  have a2 : (1 : Int) < (ls.length : Int) := by omega
  constructor <;> simp [numsB, progB, hl, hb, hz, ht, twoS, pA, pB, stB, payB, valB, vIn, ln, cnt, a1, a2, h0.1, h0.2] <;> omega
theorem swap_run {ls : List (Int × Int)} {zs : List Int} {M : Int} (hl : ls.length ≤ 4) (hb : labsB ls = true) (h2 : 2 ≤ ls.length) (hz : zs.length = ls.length) (ht : tenB zs = true) (h0 : 0 ≤ M ∧ M < 10) :
    (runS ls 1 (twoS (pA M) pB) zs).n = (runS ls 1 (twoS pB (pA M)) zs).n ∧ (runS ls 1 (twoS (pA M) pB) zs).n.length = zs.length ∧ (runS ls 1 (twoS (pA M) pB) zs).n[0]? = some M ∧ (runS ls 1 (twoS (pA M) pB) zs).n[1]? = zs[1]? := by
  obtain ⟨k1, k2⟩ := swap_ok hl hb h2 hz ht h0
  unfold runS
  rw [if_pos k1, if_pos k2]
  match zs, (show 2 ≤ zs.length by omega) with
  | a :: b :: r, _ => simp [doT, twoS, pA, pB, stepS, numV]
/-- One step, that does others if a variable is not 0, or else. -/
def oneT {d : Nat} (v : Int) (T : Tr d) : Tr (d + 1) := ([(⟨2, v, 0, 0, 0, 0⟩, T, noT d)] : List (Pay × Tr d × Tr d))
def oneE {d : Nat} (v : Int) (T : Tr d) : Tr (d + 1) := ([(⟨2, v, 0, 0, 0, 0⟩, noT d, T)] : List (Pay × Tr d × Tr d))
theorem rep_noT (w : World) (d : Nat) : Rep w d (.slice none 0 0) (noT d) := (RepP.zero (P := fun _ => True) (noT d) (ln_noT d)).rep
theorem rep_oneT {w : World} {d : Nat} {sv : Value} {T : Tr d} (h : Rep w d sv T) (v : Int) (X : TypeId) : Rep (w.alloc (.cells #[.int .i64 2, .int .i64 v, .int .i64 0, .int .i64 0, .int .i64 0, .int .i64 0, sv, .slice none 0 0] X)) (d + 1) (.slice (some ⟨w.heap.size, 0, none⟩) 1 1) (oneT v T) := by
  refine ⟨_, 1, rfl, Nat.le_refl _, by unfold maxLen; omega, fun i hi => ?_⟩
  match i, hi with
  | 0, _ => exact ⟨w.heap.size, 0, sv, .slice none 0 0, rfl, ⟨by first | (simp; done) | (simp; rfl), by first | (simp; done) | (simp; rfl), by first | (simp; done) | (simp; rfl), by first | (simp; done) | (simp; rfl), by first | (simp; done) | (simp; rfl), by first | (simp; done) | (simp; rfl), by first | (simp; done) | (simp; rfl), by first | (simp; done) | (simp; rfl)⟩, h.below ((Below.refl _ _).alloc (Nat.le_refl _) _), rep_noT _ _⟩
theorem rep_oneE {w : World} {d : Nat} {sv : Value} {T : Tr d} (h : Rep w d sv T) (v : Int) (X : TypeId) : Rep (w.alloc (.cells #[.int .i64 2, .int .i64 v, .int .i64 0, .int .i64 0, .int .i64 0, .int .i64 0, .slice none 0 0, sv] X)) (d + 1) (.slice (some ⟨w.heap.size, 0, none⟩) 1 1) (oneE v T) := by
  refine ⟨_, 1, rfl, Nat.le_refl _, by unfold maxLen; omega, fun i hi => ?_⟩
  match i, hi with
  | 0, _ => exact ⟨w.heap.size, 0, .slice none 0 0, sv, rfl, ⟨by first | (simp; done) | (simp; rfl), by first | (simp; done) | (simp; rfl), by first | (simp; done) | (simp; rfl), by first | (simp; done) | (simp; rfl), by first | (simp; done) | (simp; rfl), by first | (simp; done) | (simp; rfl), by first | (simp; done) | (simp; rfl), by first | (simp; done) | (simp; rfl)⟩, rep_noT _ _, h.below ((Below.refl _ _).alloc (Nat.le_refl _) _)⟩
theorem stB_noT (n : Int) (d : Nat) (k : Int) : stB n d k (noT d) = true := stB_nil d k (noT d) (ln_noT d)
theorem one_prog (ls : List (Int × Int)) {d : Nat} (v : Int) (T : Tr d) : progB ls (d + 1) (oneE v T) = progB ls (d + 1) (oneT v T) := by
  simp [progB, oneT, oneE, stB, cnt, stB_noT, cnt_noT, payB, Nat.add_comm]
theorem one_nums {ls : List (Int × Int)} {zs : List Int} {d : Nat} {T : Tr d} (v : Int) (h : numsB ls d T zs = true) : numsB ls (d + 1) (oneT v T) zs = progB ls (d + 1) (oneT v T) ∧ numsB ls (d + 1) (oneE v T) zs = progB ls (d + 1) (oneT v T) := by
  obtain ⟨-, h1, h2⟩ := numsB_parts h
  unfold numsB
  rw [one_prog]
  simp [h1, h2]
theorem doT_noT (d : Nat) (s : RSt) : doT d (noT d) s = s := by cases d <;> rfl
theorem one_run {ls : List (Int × Int)} {zs : List Int} {d : Nat} {T : Tr d} (v : Nat) (h : numsB ls d T zs = true) (h' : progB ls (d + 1) (oneT v T) = true) (hv : v < zs.length) :
    runS ls (d + 1) (oneT v T) zs = (if zs[v] ≠ 0 then runS ls d T zs else ⟨zs, [], []⟩) ∧ runS ls (d + 1) (oneE v T) zs = (if zs[v] ≠ 0 then ⟨zs, [], []⟩ else runS ls d T zs) := by
  obtain ⟨k1, k2⟩ := one_nums v h
  rw [h'] at k1 k2
  unfold runS
  rw [if_pos k1, if_pos k2, if_pos h]
  constructor <;> simp [doT, oneT, oneE, stepS, doT_noT, hv]
theorem lrep_nil (w : World) : LRep w (.slice none 0 0) [] := ⟨none, 0, rfl, Nat.le_refl _, by unfold maxLen; omega, fun i hi => by simp at hi⟩
theorem grep_at {α : Type} {f : α → Value} {w : World} {g o c : Nat} {xs : List α} (h : GRep f w (.slice (some ⟨g, o, none⟩) xs.length c) xs) {i : Nat} {x : α} (hx : xs[i]? = some x) : w.cell? ⟨g, o + i, none⟩ = some (f x) := by
  obtain ⟨a, c', hs, -, -, hcell⟩ := h
  obtain ⟨hi, rfl⟩ := List.getElem?_eq_some_iff.1 hx
  obtain ⟨b, off, h1, h2⟩ := hcell i hi
  simp only [Value.slice.injEq] at hs
  have := hs.1.trans h1
  simp only [Option.some.injEq, Addr.mk.injEq] at this
  obtain ⟨rfl, rfl, -⟩ := this
  exact h2
/-- One step that sets a variable. -/
def oneV (vk va vb : Int) : Tr 1 := ([(⟨1, 0, vk, va, vb, 0⟩, (), ())] : List (Pay × Tr 0 × Tr 0))
theorem rep_oneV (w : World) (vk va vb : Int) (X : TypeId) : Rep (w.alloc (.cells #[.int .i64 1, .int .i64 0, .int .i64 vk, .int .i64 va, .int .i64 vb, .int .i64 0, .slice none 0 0, .slice none 0 0] X)) 1 (.slice (some ⟨w.heap.size, 0, none⟩) 1 1) (oneV vk va vb) := by
  refine ⟨_, 1, rfl, Nat.le_refl _, by unfold maxLen; omega, fun i hi => ?_⟩
  match i, hi with
  | 0, _ => exact ⟨w.heap.size, 0, .slice none 0 0, .slice none 0 0, rfl, ⟨by first | (simp; done) | (simp; rfl), by first | (simp; done) | (simp; rfl), by first | (simp; done) | (simp; rfl), by first | (simp; done) | (simp; rfl), by first | (simp; done) | (simp; rfl), by first | (simp; done) | (simp; rfl), by first | (simp; done) | (simp; rfl), by first | (simp; done) | (simp; rfl)⟩, ⟨none, 0, rfl⟩, ⟨none, 0, rfl⟩⟩
theorem oneV_ok {ls : List (Int × Int)} {zs : List Int} {d : Nat} {T : Tr d} {vk va vb : Int} (h : numsB ls d T zs = true) (h1 : 1 ≤ ls.length) (hv : valB ls.length vk va vb = true) : numsB ls 1 (oneV vk va vb) zs = true := by
  obtain ⟨hp, hz, ht⟩ := numsB_parts h
  obtain ⟨hl, hb, -, -⟩ := progB_parts hp
  have a1 : 0 < ls.length := by omega
  simp [numsB, progB, hl, hb, hz, ht, oneV, stB, payB, vIn, ln, cnt, a1, hv]
theorem oneV_run {ls : List (Int × Int)} {zs : List Int} {d : Nat} {T : Tr d} {vk va vb : Int} (h : numsB ls d T zs = true) (h1 : 1 ≤ ls.length) (hv : valB ls.length vk va vb = true) : runS ls 1 (oneV vk va vb) zs = ⟨zs.set 0 (numV vk va vb zs), [(0, numV vk va vb zs)], []⟩ := by
  unfold runS
  rw [if_pos (oneV_ok h h1 hv)]
  simp [doT, oneV, stepS]

end Go.Proofs.Ytepacahfpbedoaa
