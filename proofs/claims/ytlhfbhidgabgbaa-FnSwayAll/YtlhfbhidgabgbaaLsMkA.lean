/- Steps that are marked with numbers, one behind the other. -/
import Derived.Test.YtlhfbhidgabgbaaLsToC
namespace Go.Proofs.Ytlhfbhidgabgbaa
open Go.RowKit
set_option linter.unusedSimpArgs false
set_option linter.unusedVariables false

def mkP (k : Int) : Pay := ⟨k, k + 1, k + 2, k + 3, k + 4, k + 5⟩
def mkL {α : Type} (f : Int → α → α) (c : α → Nat) : Int → List (Pay × α × α) → List (Pay × α × α)
  | _, [] => []
  | k, x :: r => (mkP k, f (k + 6) x.2.1, f (k + 6 + 6 * c x.2.1) x.2.2) :: mkL f c (k + 6 + 6 * c x.2.1 + 6 * c x.2.2) r
/-- Steps with numbers in the place of all that they hold beside steps. -/
def mkT : (d : Nat) → Int → Tr d → Tr d
  | 0, _, T => T
  | d + 1, k, (l : List (Pay × Tr d × Tr d)) => mkL (mkT d) (cnt d) k l
/-- All blocks but these are as they were. -/
structure Fr (bs : List Nat) (w w' : World) : Prop where
  os : w'.os = w.os
  tape : w'.tape = w.tape
  output : w'.output = w.output
  size : w'.heap.size = w.heap.size
  block : ∀ b, b ∉ bs → w'.heap[b]? = w.heap[b]?
theorem Fr.refl (bs : List Nat) (w : World) : Fr bs w w := ⟨rfl, rfl, rfl, rfl, fun _ _ => rfl⟩
theorem Fr.trans {bs : List Nat} {a b c : World} (h : Fr bs a b) (k : Fr bs b c) : Fr bs a c := ⟨k.os.trans h.os, k.tape.trans h.tape, k.output.trans h.output, k.size.trans h.size, fun i hi => (k.block i hi).trans (h.block i hi)⟩
theorem Fr.mono {bs cs : List Nat} {a b : World} (h : Fr bs a b) (hs : ∀ x ∈ bs, x ∈ cs) : Fr cs a b := ⟨h.os, h.tape, h.output, h.size, fun i hi => h.block i (fun hm => hi (hs i hm))⟩
theorem Fr.setCell {bs : List Nat} {a w : World} (h : Fr bs a w) {p : Addr} (hp : p.block ∈ bs) (u : Value) : Fr bs a (w.setCell p u) :=
  h.trans ⟨rfl, rfl, rfl, by simp [World.setCell], fun b hb => Below.heap_setCell _ _ _ _ (fun e => hb (e ▸ hp))⟩
theorem Fr.drew {bs : List Nat} {a w : World} (h : Fr bs a w) : Fr bs a w.drew := ⟨h.os, h.tape, h.output, h.size, h.block⟩
theorem Fr.below {bs : List Nat} {B : Nat} {w w' : World} (h : Fr bs w w') (hB : ∀ b ∈ bs, B ≤ b) : Below B w w' := ⟨h.os, h.tape, h.output, by rw [h.size]; exact Nat.le_refl _, fun k hk => h.block k (fun hm => by have := hB k hm; omega)⟩

def st6 (w : World) (g o : Nat) (k : Int) : World :=
  (((((w.setCell ⟨g, o, none⟩ (.int .i64 k)).setCell ⟨g, o + 1, none⟩ (.int .i64 (k + 1))).setCell ⟨g, o + 2, none⟩ (.int .i64 (k + 2))).setCell ⟨g, o + 3, none⟩ (.int .i64 (k + 3))).setCell ⟨g, o + 4, none⟩ (.int .i64 (k + 4))).setCell ⟨g, o + 5, none⟩ (.int .i64 (k + 5))
end Go.Proofs.Ytlhfbhidgabgbaa
