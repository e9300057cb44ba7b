/- Steps that are marked with numbers, one behind the other. -/
import Derived.Test.YthcgdhlemieboaaGreatDoorLnRfy
import Derived.Test.YthcgdhlemieboaaGreatDoorLnCpx
import Derived.Test.YthcgdhlemieboaaGreatDoorLnTyp
namespace Go.Proofs.YthcgdhlemieboaaGreatDoor
open Go.RowKit
set_option linter.unusedSimpArgs false
set_option linter.unusedVariables false

def mkP (k : Int) : Pay := ⟨k, k + 1, k + 2, k + 3, k + 4, k + 5⟩
def mkL {α : Type} (f : Int → α → α) (c : α → Nat) : Int → List (Pay × α × α) → List (Pay × α × α)
  | _, [] => []
  | k, x :: r => (mkP k, f (k + 6) x.2.1, f (k + 6 + 6 * c x.2.1) x.2.2) :: mkL f c (k + 6 + 6 * c x.2.1 + 6 * c x.2.2) r
def mkT : (d : Nat) → Int → Tr d → Tr d
  | 0, _, T => T
  | d + 1, k, (l : List (Pay × Tr d × Tr d)) => mkL (mkT d) (cnt d) k l
structure Fr (bs : List Nat) (w w' : World) : Prop where
  os : w'.os = w.os
  tape : w'.tape = w.tape
  output : w'.output = w.output
  size : w'.heap.size = w.heap.size
  block : ∀ b, b ∉ bs → w'.heap[b]? = w.heap[b]?
theorem Fr.refl (bs : List Nat) (w : World) : Fr bs w w := ⟨rfl, rfl, rfl, rfl, fun _ _ => rfl⟩
theorem Fr.trans {bs : List Nat} {a b c : World} (h : Fr bs a b) (k : Fr bs b c) : Fr bs a c := ⟨k.os.trans h.os, k.tape.trans h.tape, k.output.trans h.output, k.size.trans h.size, fun i hi => (k.block i hi).trans (h.block i hi)⟩
theorem Fr.mono {bs cs : List Nat} {a b : World} (h : Fr bs a b) (hs : ∀ x ∈ bs, x ∈ cs) : Fr cs a b := ⟨h.os, h.tape, h.output, h.size, fun i hi => h.block i (fun hm => hi (hs i hm))⟩
theorem Fr.setCell {bs : List Nat} {a w : World} (h : Fr bs a w) {p : Addr} (hp : p.block ∈ bs) (u : Value) : Fr bs a (w.setCell p u) :=
  h.trans ⟨rfl, rfl, rfl, by simp [World.setCell], fun b hb => Below.heap_setCell _ _ _ _ (fun e => hb (e ▸ hp))⟩
theorem Fr.drew {bs : List Nat} {a w : World} (h : Fr bs a w) : Fr bs a w.drew := ⟨h.os, h.tape, h.output, h.size, h.block⟩
theorem Fr.below {bs : List Nat} {B : Nat} {w w' : World} (h : Fr bs w w') (hB : ∀ b ∈ bs, B ≤ b) : Below B w w' := ⟨h.os, h.tape, h.output, by rw [h.size]; exact Nat.le_refl _, fun k hk => h.block k (fun hm => by have := hB k hm; omega)⟩

def st6 (w : World) (g o : Nat) (k : Int) : World :=
  (((((w.setCell ⟨g, o, none⟩ (.int .i64 k)).setCell ⟨g, o + 1, none⟩ (.int .i64 (k + 1))).setCell ⟨g, o + 2, none⟩ (.int .i64 (k + 2))).setCell ⟨g, o + 3, none⟩ (.int .i64 (k + 3))).setCell ⟨g, o + 4, none⟩ (.int .i64 (k + 4))).setCell ⟨g, o + 5, none⟩ (.int .i64 (k + 5))
end Go.Proofs.YthcgdhlemieboaaGreatDoor

namespace Go.Proofs.YthcgdhlemieboaaGreatDoor
open Go.RowKit
set_option linter.unusedSimpArgs false
set_option linter.unusedVariables false

structure Fs (bs : List Nat) (w w' : World) : Prop where
  os : w'.os = w.os
  tape : w'.tape = w.tape
  output : w'.output = w.output
  size : w.heap.size ≤ w'.heap.size
  block : ∀ b, b < w.heap.size → b ∉ bs → w'.heap[b]? = w.heap[b]?
theorem Fs.trans {bs : List Nat} {a b c : World} (h : Fs bs a b) (k : Fs bs b c) : Fs bs a c := ⟨k.os.trans h.os, k.tape.trans h.tape, k.output.trans h.output, Nat.le_trans h.size k.size, fun i hi hn => (k.block i (Nat.lt_of_lt_of_le hi h.size) hn).trans (h.block i hi hn)⟩
theorem Fs.mono {bs cs : List Nat} {a b : World} (h : Fs bs a b) (hs : ∀ x ∈ bs, x ∈ cs) : Fs cs a b := ⟨h.os, h.tape, h.output, h.size, fun i hi hn => h.block i hi (fun hm => hn (hs i hm))⟩
theorem Fs.of_below {bs : List Nat} {w w' : World} (h : Below w.heap.size w w') : Fs bs w w' := ⟨h.os, h.tape, h.output, h.size, fun b hb _ => h.block b hb⟩
theorem Fs.below {bs : List Nat} {B : Nat} {w w' : World} (h : Fs bs w w') (hB : ∀ b ∈ bs, B ≤ b) (hw : B ≤ w.heap.size) : Below B w w' := ⟨h.os, h.tape, h.output, h.size, fun k hk => h.block k (by omega) (fun hm => by have := hB k hm; omega)⟩
theorem Fs.cell {bs : List Nat} {w w' : World} (h : Fs bs w w') {a : Addr} {u : Value} (hc : w.cell? a = some u) (hn : a.block ∉ bs) : w'.cell? a = some u :=
  (World.cell?_of_block (h.block a.block (World.block_lt_of_cell? w a hc) hn)).trans hc
theorem Fs.own {bs : List Nat} {w w' : World} (h : Fs bs w w') {d : Nat} {s : Value} {T : Tr d} {cs : List Nat} (ho : Own w d s T cs) (hlt : ∀ b ∈ cs, b < w.heap.size ∧ b ∉ bs) : Own w' d s T cs := ho.frame (fun b hb => h.block b (hlt b hb).1 (hlt b hb).2)

end Go.Proofs.YthcgdhlemieboaaGreatDoor

namespace Go.Proofs.YthcgdhlemieboaaGreatDoor
open Go.RowKit
set_option linter.unusedSimpArgs false
set_option linter.unusedVariables false
attribute [local go_sem] World.cell?_alloc_some

theorem FlatR.get {W : World} : ∀ {fs : List Sg} {xs : List Value} {q : Nat} {x : Sg}, FlatR W fs xs → fs[q]? = some x → ∃ t e, (∀ j, j < 8 → xs[q * 8 + j]? = (cells8 x.2.1 t e)[j]?) ∧ Rep W x.1 t x.2.2.1 ∧ Rep W x.1 e x.2.2.2
  | [], _, _, _, _, hx => by simp at hx
  | y :: fs, xs, 0, x, h, hx => by
    obtain ⟨t, e, ys, rfl, r1, r2, h⟩ := h
    have : y = x := by simpa using hx
    subst this
    refine ⟨t, e, fun j hj => ?_, r1, r2⟩
    rw [List.getElem?_append_left (by simp [cells8]; omega), Nat.zero_mul, Nat.zero_add]
  | y :: fs, xs, q + 1, x, h, hx => by
    obtain ⟨t, e, ys, rfl, r1, r2, h⟩ := h
    obtain ⟨t', e', h1, h2, h3⟩ := FlatR.get h (by simpa using hx)
    refine ⟨t', e', fun j hj => ?_, h2, h3⟩
    rw [List.getElem?_append_right (by simp [cells8]; omega), ← h1 j hj]
    congr 1
    simp [cells8]; omega
theorem row_cells {w : World} {base : Nat} {e : TypeId} {g n c : Nat} {ys : List Value} (h : w.ownsRow base e 8 (.slice (some ⟨g, 0, none⟩) n c) n ys) {q : Nat} {p : Pay} {t u : Value} (hq : ∀ j, j < 8 → ys[q * 8 + j]? = (cells8 p t u)[j]?) : StepAt w g (q * 8) p t u := range8 (rows_range h hq rfl)

def zeroStep : Value := .agg #[.int .i64 0, .int .i64 0, .int .i64 0, .int .i64 0, .int .i64 0, .int .i64 0, .slice none 0 0, .slice none 0 0]
def stepOf (p : Pay) (t e : Value) : Value := .agg #[.int .i64 p.k, .int .i64 p.v, .int .i64 p.vk, .int .i64 p.va, .int .i64 p.vb, .int .i64 p.h, t, e]
def AtPost (w : World) (ls : List (Int × Int)) (d : Nat) (T : Tr d) (n : Int) (e : Ending) (w' : World) : Prop := Below w.heap.size w w' ∧
  (((progB ls d T && vIn (cnt d T) n) = true ∧ ∃ (x : Sg) (t' e' : Value) (b1 b2 : List Nat), (flat d T)[n.toNat]? = some x ∧ e = .returned (.tuple #[stepOf x.2.1 t' e', .bool true]) ∧ Own w' x.1 t' x.2.2.1 b1 ∧ Own w' x.1 e' x.2.2.2 b2 ∧ (∀ b ∈ b1 ++ b2, w.heap.size ≤ b ∧ b < w'.heap.size) ∧ (b1 ++ b2).Nodup) ∨
   ((progB ls d T && vIn (cnt d T) n) = false ∧ e = .returned (.tuple #[zeroStep, .bool false])))

end Go.Proofs.YthcgdhlemieboaaGreatDoor

namespace Go.Proofs.YthcgdhlemieboaaGreatDoor
set_option linter.unusedSimpArgs false
set_option linter.unusedVariables false

def badJ (ls : List (Int × Int)) (bd : Option Nat) (n : Nat) (xs : List (Pay × (Int × Int))) : Option Nat := bd.or ((badI ls xs).map (· + n))
theorem badJ_nil (ls : List (Int × Int)) (bd : Option Nat) (n : Nat) : badJ ls bd n [] = bd := by simp [badJ, badI]
theorem badJ_app (ls : List (Int × Int)) (bd : Option Nat) (n : Nat) (xs ys : List (Pay × (Int × Int))) : badJ ls (badJ ls bd n xs) (n + xs.length) ys = badJ ls bd n (xs ++ ys) := by
  unfold badJ badI
  rw [List.findIdx?_append]
  cases bd with
  | some i => simp
  | none =>
    cases h : xs.findIdx? (fun x => !fineB ls x.1 x.2) with
    | some i => simp
    | none =>
      simp only [Option.none_or, Option.map_none, Option.map_map]
      congr 1
      funext k; simp; omega
theorem badJ_cons (ls : List (Int × Int)) (bd : Option Nat) (n : Nat) (x : Pay × (Int × Int)) (ys : List (Pay × (Int × Int))) : badJ ls bd n (x :: ys) = badJ ls (if bd = none ∧ fineB ls x.1 x.2 = false then some n else bd) (n + 1) ys := by
  rw [← List.singleton_append, ← badJ_app]
  congr 1
  unfold badJ badI
  cases bd with
  | some i => simp
  | none =>
    cases h : fineB ls x.1 x.2 <;> simp [h, List.findIdx?_cons]
theorem prs_zero (ls : List (Int × Int)) : ∀ (d : Nat) (T : Tr d) (h : Int × Int), ln d T = 0 → prs ls d T h = []
  | 0, _, _, _ => rfl
  | d + 1, (l : List (Pay × Tr d × Tr d)), h, e => by
    have : l = [] := List.eq_nil_of_length_eq_zero e
    subst this; rfl
theorem setsL_zero (ls : List (Int × Int)) : ∀ (d : Nat) (T : Tr d), ln d T = 0 → setsL ls d T = []
  | 0, _, _ => rfl
  | d + 1, (l : List (Pay × Tr d × Tr d)), e => by
    have : l = [] := List.eq_nil_of_length_eq_zero e
    subst this; rfl
theorem setT_zero (ls : List (Int × Int)) : ∀ (d : Nat) (T : Tr d), ln d T = 0 → setT ls d T = 0
  | 0, _, _ => rfl
  | d + 1, (l : List (Pay × Tr d × Tr d)), e => by
    have : l = [] := List.eq_nil_of_length_eq_zero e
    subst this; rfl
theorem payB_cases {n : Int} {p : Pay} {z : Bool} (h : payB n p z = true) : vIn n p.v = true ∧ ((p.k = 1 ∧ valB n p.vk p.va p.vb = true ∧ z = true) ∨ (p.k = 3 ∧ (0 ≤ p.h ∧ p.h ≤ 2) ∧ z = true) ∨ p.k = 2) := by
  unfold payB at h
  simp only [Bool.and_eq_true_iff] at h
  refine ⟨h.1, ?_⟩
  have h2 := h.2
  split at h2
  · simp only [Bool.and_eq_true_iff] at h2
    exact .inl ⟨by assumption, h2.1.1, h2.2⟩
  · split at h2
    · simp only [Bool.and_eq_true_iff] at h2
      refine .inr (.inl ⟨by assumption, ?_, ?_⟩)
      · have := h2.1.2; simp [vIn] at this; omega
      · exact h2.2
    · split at h2
      · exact .inr (.inr (by assumption))
      · cases h2
end Go.Proofs.YthcgdhlemieboaaGreatDoor
