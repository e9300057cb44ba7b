/- An argument laid anew: a step. -/
import Derived.Test.YthcgdhlemieboaaGreatTkOwn
import Derived.Test.YthcgdhlemieboaaGreatTkCsB
import Derived.OwnWalk
import Derived.Deep.Upon
import Derived.Test.YthcgdhlemieboaaGreatTkTre
import Derived.Deep.RegionHeld3
import Derived.Deep.DrawnRows
import Derived.Test.YthcgdhlemieboaaGreatTkTrn
namespace Go.Proofs.YthcgdhlemieboaaGreat
open Go.RowKit
set_option linter.unusedSimpArgs false
set_option linter.unusedVariables false
attribute [local go_sem] World.cell?_alloc_some

end Go.Proofs.YthcgdhlemieboaaGreat

namespace Go.Proofs.YthcgdhlemieboaaGreat
open Go.RowKit
set_option linter.unusedSimpArgs false
set_option linter.unusedVariables false

theorem below_setCells {B : Nat} {a : World} {g : Nat} (hg : B ≤ g) : ∀ (vs : List Value) (o : Nat) (w : World), Below B a w → Below B a (w.setCells g o vs)
  | [], _, _, h => h
  | v :: r, o, w, h => below_setCells hg r (o + 1) _ (h.setCell hg v)
theorem heap_setCells {g : Nat} : ∀ (vs : List Value) (o : Nat) (w : World) (b : Nat), b ≠ g → (w.setCells g o vs).heap[b]? = w.heap[b]?
  | [], _, _, _, _ => rfl
  | v :: r, o, w, b, h => (heap_setCells r (o + 1) _ b h).trans (Below.heap_setCell _ _ _ _ h)
theorem size_setCells {g : Nat} : ∀ (vs : List Value) (o : Nat) (w : World), (w.setCells g o vs).heap.size = w.heap.size
  | [], _, _ => rfl
  | v :: r, o, w => (size_setCells r (o + 1) _).trans (by simp [World.setCell])
theorem row_there {w : World} {base : Nat} {e : TypeId} {size g n c : Nat} {xs : List Value} (h : w.ownsRow base e size (.slice (some ⟨g, 0, none⟩) n c) n xs) : w.there g 0 (n * size) := by
  obtain ⟨_, ⟨h1, _⟩ | ⟨g', cap, cur, hv, hg, hh, hc, hm, hs, ht⟩⟩ := h
  · cases h1
  · cases hv
    intro j hj
    have hlt : j < cur.size := by rw [hs]; exact Nat.lt_of_lt_of_le hj (Nat.mul_le_mul_right _ hc)
    constructor
    · simp [World.cell?, hh, hlt]
    · simp [World.frozen?, hh]

end Go.Proofs.YthcgdhlemieboaaGreat

namespace Go.Proofs.YthcgdhlemieboaaGreat
open Go.RowKit
set_option linter.unusedSimpArgs false
set_option linter.unusedVariables false
attribute [local go_sem] World.cell?_alloc_some

def LOwn (w : World) (v : Value) (ls : List (Int × Int)) (bs : List Nat) : Prop := (ls.length = 0 ∧ (∃ a c, v = .slice a 0 c ∧ c ≤ maxLen) ∧ bs = []) ∨
  (0 < ls.length ∧ ∃ (g c : Nat), v = .slice (some ⟨g, 0, none⟩) ls.length c ∧ ls.length ≤ c ∧ c ≤ maxLen ∧ w.there g 0 (ls.length * 2) ∧ bs = [g] ∧ ∀ i (hi : i < ls.length), w.rangeAt g (i * 2) [.int .i64 ls[i].1, .int .i64 ls[i].2])
theorem LOwn.frame {w w' : World} {v : Value} {ls : List (Int × Int)} {bs : List Nat} (hb : ∀ b ∈ bs, w'.heap[b]? = w.heap[b]?) (h : LOwn w v ls bs) : LOwn w' v ls bs := by
  rcases h with h | ⟨h0, g, c, rfl, hlc, hcm, ht, rfl, hr⟩
  · exact .inl h
  · exact .inr ⟨h0, g, c, rfl, hlc, hcm, there_same (hb g (by simp)) ht, rfl, fun i hi => range_same (hb g (by simp)) (hr i hi)⟩
theorem LOwn.rep {w : World} {v : Value} {ls : List (Int × Int)} {bs : List Nat} (h : LOwn w v ls bs) : LRep w v ls := by
  rcases h with ⟨h0, ⟨a, c, rfl, hc⟩, _⟩ | ⟨h0, g, c, rfl, hlc, hcm, ht, rfl, hr⟩
  · exact ⟨a, c, by rw [h0], by omega, hc, fun i hi => by omega⟩
  · refine ⟨_, c, rfl, hlc, hcm, fun i hi => ⟨g, 0, rfl, ?_, ?_⟩⟩
    · have := hr i hi 0 _ rfl; simpa using this
    · have := hr i hi 1 _ rfl; simpa using this
theorem infoLabel : (Tryz.prog.info? 59).map (fun i => (i.zero, i.size, i.bytes)) = some (some (.agg #[.int .i64 0, .int .i64 0]), 2, 16) := by kernel_rfl

end Go.Proofs.YthcgdhlemieboaaGreat

namespace Go.Proofs.YthcgdhlemieboaaGreat
open Go.RowKit
set_option linter.unusedSimpArgs false
set_option linter.unusedVariables false

def mkP (k : Int) : Pay := ⟨k, k + 1, k + 2, k + 3, k + 4, k + 5⟩
def mkL {α : Type} (f : Int → α → α) (c : α → Nat) : Int → List (Pay × α × α) → List (Pay × α × α)
  | _, [] => []
  | k, x :: r => (mkP k, f (k + 6) x.2.1, f (k + 6 + 6 * c x.2.1) x.2.2) :: mkL f c (k + 6 + 6 * c x.2.1 + 6 * c x.2.2) r
def mkT : (d : Nat) → Int → Tr d → Tr d
  | 0, _, T => T
  | d + 1, k, (l : List (Pay × Tr d × Tr d)) => mkL (mkT d) (cnt d) k l
structure Fr (bs : List Nat) (w w' : World) : Prop where
  os : w'.os = w.os
  tape : w'.tape = w.tape
  output : w'.output = w.output
  size : w'.heap.size = w.heap.size
  block : ∀ b, b ∉ bs → w'.heap[b]? = w.heap[b]?
theorem Fr.refl (bs : List Nat) (w : World) : Fr bs w w := ⟨rfl, rfl, rfl, rfl, fun _ _ => rfl⟩
theorem Fr.trans {bs : List Nat} {a b c : World} (h : Fr bs a b) (k : Fr bs b c) : Fr bs a c := ⟨k.os.trans h.os, k.tape.trans h.tape, k.output.trans h.output, k.size.trans h.size, fun i hi => (k.block i hi).trans (h.block i hi)⟩
theorem Fr.mono {bs cs : List Nat} {a b : World} (h : Fr bs a b) (hs : ∀ x ∈ bs, x ∈ cs) : Fr cs a b := ⟨h.os, h.tape, h.output, h.size, fun i hi => h.block i (fun hm => hi (hs i hm))⟩
theorem Fr.setCell {bs : List Nat} {a w : World} (h : Fr bs a w) {p : Addr} (hp : p.block ∈ bs) (u : Value) : Fr bs a (w.setCell p u) :=
  h.trans ⟨rfl, rfl, rfl, by simp [World.setCell], fun b hb => Below.heap_setCell _ _ _ _ (fun e => hb (e ▸ hp))⟩
theorem Fr.drew {bs : List Nat} {a w : World} (h : Fr bs a w) : Fr bs a w.drew := ⟨h.os, h.tape, h.output, h.size, h.block⟩
theorem Fr.below {bs : List Nat} {B : Nat} {w w' : World} (h : Fr bs w w') (hB : ∀ b ∈ bs, B ≤ b) : Below B w w' := ⟨h.os, h.tape, h.output, by rw [h.size]; exact Nat.le_refl _, fun k hk => h.block k (fun hm => by have := hB k hm; omega)⟩

def st6 (w : World) (g o : Nat) (k : Int) : World :=
  (((((w.setCell ⟨g, o, none⟩ (.int .i64 k)).setCell ⟨g, o + 1, none⟩ (.int .i64 (k + 1))).setCell ⟨g, o + 2, none⟩ (.int .i64 (k + 2))).setCell ⟨g, o + 3, none⟩ (.int .i64 (k + 3))).setCell ⟨g, o + 4, none⟩ (.int .i64 (k + 4))).setCell ⟨g, o + 5, none⟩ (.int .i64 (k + 5))
end Go.Proofs.YthcgdhlemieboaaGreat

namespace Go.Proofs.YthcgdhlemieboaaGreat
open Go.RowKit
set_option linter.unusedSimpArgs false
set_option linter.unusedVariables false

structure Fs (bs : List Nat) (w w' : World) : Prop where
  os : w'.os = w.os
  tape : w'.tape = w.tape
  output : w'.output = w.output
  size : w.heap.size ≤ w'.heap.size
  block : ∀ b, b < w.heap.size → b ∉ bs → w'.heap[b]? = w.heap[b]?
theorem Fs.trans {bs : List Nat} {a b c : World} (h : Fs bs a b) (k : Fs bs b c) : Fs bs a c := ⟨k.os.trans h.os, k.tape.trans h.tape, k.output.trans h.output, Nat.le_trans h.size k.size, fun i hi hn => (k.block i (Nat.lt_of_lt_of_le hi h.size) hn).trans (h.block i hi hn)⟩
theorem Fs.mono {bs cs : List Nat} {a b : World} (h : Fs bs a b) (hs : ∀ x ∈ bs, x ∈ cs) : Fs cs a b := ⟨h.os, h.tape, h.output, h.size, fun i hi hn => h.block i hi (fun hm => hn (hs i hm))⟩
theorem Fs.of_below {bs : List Nat} {w w' : World} (h : Below w.heap.size w w') : Fs bs w w' := ⟨h.os, h.tape, h.output, h.size, fun b hb _ => h.block b hb⟩
theorem Fs.below {bs : List Nat} {B : Nat} {w w' : World} (h : Fs bs w w') (hB : ∀ b ∈ bs, B ≤ b) (hw : B ≤ w.heap.size) : Below B w w' := ⟨h.os, h.tape, h.output, h.size, fun k hk => h.block k (by omega) (fun hm => by have := hB k hm; omega)⟩
theorem Fs.cell {bs : List Nat} {w w' : World} (h : Fs bs w w') {a : Addr} {u : Value} (hc : w.cell? a = some u) (hn : a.block ∉ bs) : w'.cell? a = some u :=
  (World.cell?_of_block (h.block a.block (World.block_lt_of_cell? w a hc) hn)).trans hc
theorem Fs.own {bs : List Nat} {w w' : World} (h : Fs bs w w') {d : Nat} {s : Value} {T : Tr d} {cs : List Nat} (ho : Own w d s T cs) (hlt : ∀ b ∈ cs, b < w.heap.size ∧ b ∉ bs) : Own w' d s T cs := ho.frame (fun b hb => h.block b (hlt b hb).1 (hlt b hb).2)

end Go.Proofs.YthcgdhlemieboaaGreat

namespace Go.Proofs.YthcgdhlemieboaaGreat
open Go.RowKit
set_option linter.unusedSimpArgs false
set_option linter.unusedVariables false

def szR (left : Int) (c : Nat) : Int := if (c : Int) ≤ left then left - c else -1
end Go.Proofs.YthcgdhlemieboaaGreat

namespace Go.Proofs.YthcgdhlemieboaaGreat
open Go.RowKit
set_option linter.unusedSimpArgs false
set_option linter.unusedVariables false
attribute [local go_sem ↓] Go.wp_at_zero Go.wp_at_succ
attribute [local go_sem] World.cell?_alloc_some

end Go.Proofs.YthcgdhlemieboaaGreat

namespace Go.Proofs.YthcgdhlemieboaaGreat
open Go.RowKit
set_option linter.unusedSimpArgs false
set_option linter.unusedVariables false

def mapT (f : Pay → Pay) : (d : Nat) → Tr d → Tr d
  | 0, _ => ()
  | d + 1, (l : List (Pay × Tr d × Tr d)) => (l.map fun x => (f x.1, mapT f d x.2.1, mapT f d x.2.2) : List (Pay × Tr d × Tr d))
def mapL (f : Pay → Pay) (d : Nat) (l : List (Pay × Tr d × Tr d)) : List (Pay × Tr d × Tr d) := l.map fun x => (f x.1, mapT f d x.2.1, mapT f d x.2.2)
theorem mapT_succ (f : Pay → Pay) (d : Nat) (l : List (Pay × Tr d × Tr d)) : mapT f (d + 1) (l : List (Pay × Tr d × Tr d)) = (mapL f d l : List (Pay × Tr d × Tr d)) := rfl
theorem mapL_len (f : Pay → Pay) (d : Nat) (l : List (Pay × Tr d × Tr d)) : (mapL f d l).length = l.length := List.length_map _
theorem mapL_get (f : Pay → Pay) (d : Nat) (l : List (Pay × Tr d × Tr d)) (i : Nat) (hi : i < (mapL f d l).length) : (mapL f d l)[i] = (f (l[i]'(by rw [mapL_len] at hi; exact hi)).1, mapT f d (l[i]'(by rw [mapL_len] at hi; exact hi)).2.1, mapT f d (l[i]'(by rw [mapL_len] at hi; exact hi)).2.2) := List.getElem_map _
theorem ln_mapT (f : Pay → Pay) : ∀ (d : Nat) (T : Tr d), ln d (mapT f d T) = ln d T
  | 0, _ => rfl
  | d + 1, (l : List (Pay × Tr d × Tr d)) => mapL_len f d l
theorem cnt_mapT (f : Pay → Pay) : ∀ (d : Nat) (T : Tr d), cnt d (mapT f d T) = cnt d T
  | 0, _ => rfl
  | d + 1, (l : List (Pay × Tr d × Tr d)) => by
    show ((l.map fun x => (f x.1, mapT f d x.2.1, mapT f d x.2.2)).map fun x => 1 + cnt d x.2.1 + cnt d x.2.2).sum = (l.map fun x => 1 + cnt d x.2.1 + cnt d x.2.2).sum
    rw [List.map_map]
    congr 1
    refine List.map_congr_left fun x _ => ?_
    simp only [Function.comp, cnt_mapT f d]
def allP (P : Pay → Prop) : (d : Nat) → Tr d → Prop
  | 0, _ => True
  | d + 1, (l : List (Pay × Tr d × Tr d)) => ∀ x ∈ l, P x.1 ∧ allP P d x.2.1 ∧ allP P d x.2.2
def okP (n : Int) (p : Pay) : Prop := ∃ z, payB n p z = true
theorem allP_of {n : Int} : ∀ (d : Nat) (deep : Int) (T : Tr d), stB n d deep T = true → allP (okP n) d T
  | 0, _, _, _ => trivial
  | d + 1, deep, (l : List (Pay × Tr d × Tr d)), h => by
    intro x hx
    have := List.all_eq_true.1 h x hx
    simp only [Bool.and_eq_true, decide_eq_true_eq] at this
    exact ⟨⟨_, this.1.2⟩, allP_of d _ _ this.2.1, allP_of d _ _ this.2.2⟩
theorem mapT_id {f : Pay → Pay} {P : Pay → Prop} (h : ∀ p, P p → f p = p) : ∀ (d : Nat) (T : Tr d), allP P d T → mapT f d T = T
  | 0, _, _ => rfl
  | d + 1, (l : List (Pay × Tr d × Tr d)), ha => by
    have : (l.map fun x => (f x.1, mapT f d x.2.1, mapT f d x.2.2)) = l.map id := List.map_congr_left fun x hx => by
      obtain ⟨h1, h2, h3⟩ := ha x hx
      rw [h _ h1, mapT_id h d _ h2, mapT_id h d _ h3]
      rfl
    show (l.map fun x => (f x.1, mapT f d x.2.1, mapT f d x.2.2)) = l
    rw [this, List.map_id]
theorem mapT_mapT (f g : Pay → Pay) : ∀ (d : Nat) (T : Tr d), mapT f d (mapT g d T) = mapT (fun p => f (g p)) d T
  | 0, _ => rfl
  | d + 1, (l : List (Pay × Tr d × Tr d)) => by
    show ((l.map fun x => (g x.1, mapT g d x.2.1, mapT g d x.2.2)).map fun x => (f x.1, mapT f d x.2.1, mapT f d x.2.2)) = l.map fun x => (f (g x.1), mapT (fun p => f (g p)) d x.2.1, mapT (fun p => f (g p)) d x.2.2)
    rw [List.map_map]
    refine List.map_congr_left fun x _ => ?_
    simp only [Function.comp, mapT_mapT f g d]
theorem stB_mapT {f : Pay → Pay} {n n' : Int} (h : ∀ p z, payB n p z = true → payB n' (f p) z = true) : ∀ (d : Nat) (deep : Int) (T : Tr d), stB n d deep T = true → stB n' d deep (mapT f d T) = true
  | 0, _, _, _ => rfl
  | d + 1, deep, (l : List (Pay × Tr d × Tr d)), hs => by
    refine List.all_eq_true.2 fun y hy => ?_
    obtain ⟨x, hx, rfl⟩ := List.mem_map.1 hy
    have := List.all_eq_true.1 hs x hx
    simp only [Bool.and_eq_true] at this ⊢
    refine ⟨⟨this.1.1, ?_⟩, stB_mapT h d _ _ this.2.1, stB_mapT h d _ _ this.2.2⟩
    rw [ln_mapT, ln_mapT]
    exact h _ _ this.1.2

def hostF (zs : List Int) (p : Pay) : Pay := if p.k = 3 then { p with h := zs.getD p.h.toNat 0 } else p
def varF (zs : List Int) (p : Pay) : Pay := { p with v := zs.getD p.v.toNat 0, va := if p.vk = 2 ∨ p.vk = 3 ∨ p.vk = 4 then zs.getD p.va.toNat 0 else p.va, vb := if p.vk = 3 ∨ p.vk = 4 then zs.getD p.vb.toNat 0 else p.vb }

end Go.Proofs.YthcgdhlemieboaaGreat
