/- All old blocks but some are as they were. -/
import Derived.Test.YtkgblkbgebpejaaGreatDoorVtSqx
import Derived.Test.YtkgblkbgebpejaaGreatDoorVtTyp
namespace Go.Proofs.YtkgblkbgebpejaaGreatDoor
open Go.RowKit
set_option linter.unusedSimpArgs false
set_option linter.unusedVariables false

/-- All old blocks but these are as they were. -/
structure Fs (bs : List Nat) (w w' : World) : Prop where
  os : w'.os = w.os
  tape : w'.tape = w.tape
  output : w'.output = w.output
  size : w.heap.size ≤ w'.heap.size
  block : ∀ b, b < w.heap.size → b ∉ bs → w'.heap[b]? = w.heap[b]?
theorem Fs.trans {bs : List Nat} {a b c : World} (h : Fs bs a b) (k : Fs bs b c) : Fs bs a c := ⟨k.os.trans h.os, k.tape.trans h.tape, k.output.trans h.output, Nat.le_trans h.size k.size, fun i hi hn => (k.block i (Nat.lt_of_lt_of_le hi h.size) hn).trans (h.block i hi hn)⟩
theorem Fs.mono {bs cs : List Nat} {a b : World} (h : Fs bs a b) (hs : ∀ x ∈ bs, x ∈ cs) : Fs cs a b := ⟨h.os, h.tape, h.output, h.size, fun i hi hn => h.block i hi (fun hm => hn (hs i hm))⟩
theorem Fs.of_below {bs : List Nat} {w w' : World} (h : Below w.heap.size w w') : Fs bs w w' := ⟨h.os, h.tape, h.output, h.size, fun b hb _ => h.block b hb⟩
theorem Fs.below {bs : List Nat} {B : Nat} {w w' : World} (h : Fs bs w w') (hB : ∀ b ∈ bs, B ≤ b) (hw : B ≤ w.heap.size) : Below B w w' := ⟨h.os, h.tape, h.output, h.size, fun k hk => h.block k (by omega) (fun hm => by have := hB k hm; omega)⟩
theorem Fs.cell {bs : List Nat} {w w' : World} (h : Fs bs w w') {a : Addr} {u : Value} (hc : w.cell? a = some u) (hn : a.block ∉ bs) : w'.cell? a = some u :=
  (World.cell?_of_block (h.block a.block (World.block_lt_of_cell? w a hc) hn)).trans hc
theorem Fs.own {bs : List Nat} {w w' : World} (h : Fs bs w w') {d : Nat} {s : Value} {T : Tr d} {cs : List Nat} (ho : Own w d s T cs) (hlt : ∀ b ∈ cs, b < w.heap.size ∧ b ∉ bs) : Own w' d s T cs := ho.frame (fun b hb => h.block b (hlt b hb).1 (hlt b hb).2)

end Go.Proofs.YtkgblkbgebpejaaGreatDoor

namespace Go.Proofs.YtkgblkbgebpejaaGreatDoor
set_option linter.unusedSimpArgs false
set_option linter.unusedVariables false

/-- The first that is not fine, behind n others of which the first is known. -/
def badJ (ls : List (Int × Int)) (bd : Option Nat) (n : Nat) (xs : List (Pay × (Int × Int))) : Option Nat := bd.or ((badI ls xs).map (· + n))
theorem badJ_nil (ls : List (Int × Int)) (bd : Option Nat) (n : Nat) : badJ ls bd n [] = bd := by simp [badJ, badI]
theorem badJ_app (ls : List (Int × Int)) (bd : Option Nat) (n : Nat) (xs ys : List (Pay × (Int × Int))) : badJ ls (badJ ls bd n xs) (n + xs.length) ys = badJ ls bd n (xs ++ ys) := by
  unfold badJ badI
  rw [List.findIdx?_append]
  cases bd with
  | some i => simp
  | none =>
    cases h : xs.findIdx? (fun x => !fineB ls x.1 x.2) with
    | some i => simp
    | none =>
      simp only [Option.none_or, Option.map_none, Option.map_map]
      congr 1
      funext k; simp; omega
theorem badJ_cons (ls : List (Int × Int)) (bd : Option Nat) (n : Nat) (x : Pay × (Int × Int)) (ys : List (Pay × (Int × Int))) : badJ ls bd n (x :: ys) = badJ ls (if bd = none ∧ fineB ls x.1 x.2 = false then some n else bd) (n + 1) ys := by
  rw [← List.singleton_append, ← badJ_app]
  congr 1
  unfold badJ badI
  cases bd with
  | some i => simp
  | none =>
    cases h : fineB ls x.1 x.2 <;> simp [h, List.findIdx?_cons]
theorem prs_zero (ls : List (Int × Int)) : ∀ (d : Nat) (T : Tr d) (h : Int × Int), ln d T = 0 → prs ls d T h = []
  | 0, _, _, _ => rfl
  | d + 1, (l : List (Pay × Tr d × Tr d)), h, e => by
    have : l = [] := List.eq_nil_of_length_eq_zero e
    subst this; rfl
theorem setsL_zero (ls : List (Int × Int)) : ∀ (d : Nat) (T : Tr d), ln d T = 0 → setsL ls d T = []
  | 0, _, _ => rfl
  | d + 1, (l : List (Pay × Tr d × Tr d)), e => by
    have : l = [] := List.eq_nil_of_length_eq_zero e
    subst this; rfl
theorem setT_zero (ls : List (Int × Int)) : ∀ (d : Nat) (T : Tr d), ln d T = 0 → setT ls d T = 0
  | 0, _, _ => rfl
  | d + 1, (l : List (Pay × Tr d × Tr d)), e => by
    have : l = [] := List.eq_nil_of_length_eq_zero e
    subst this; rfl
/-- What of a step is said beside those in it. -/
theorem payB_cases {n : Int} {p : Pay} {z : Bool} (h : payB n p z = true) : vIn n p.v = true ∧ ((p.k = 1 ∧ valB n p.vk p.va p.vb = true ∧ z = true) ∨ (p.k = 3 ∧ (0 ≤ p.h ∧ p.h ≤ 2) ∧ z = true) ∨ p.k = 2) := by
  unfold payB at h
  simp only [Bool.and_eq_true_iff] at h
  refine ⟨h.1, ?_⟩
  have h2 := h.2
  split at h2
  · simp only [Bool.and_eq_true_iff] at h2
    exact .inl ⟨by assumption, h2.1.1, h2.2⟩
  · split at h2
    · simp only [Bool.and_eq_true_iff] at h2
      refine .inr (.inl ⟨by assumption, ?_, ?_⟩)
      · have := h2.1.2; simp [vIn] at this; omega
      · exact h2.2
    · split at h2
      · exact .inr (.inr (by assumption))
      · cases h2
end Go.Proofs.YtkgblkbgebpejaaGreatDoor
