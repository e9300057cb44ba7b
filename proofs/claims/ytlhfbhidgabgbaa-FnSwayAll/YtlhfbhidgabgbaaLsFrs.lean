/- All old blocks but some are as they were. -/
import Derived.Test.YtlhfbhidgabgbaaLsMkA
namespace Go.Proofs.Ytlhfbhidgabgbaa
open Go.RowKit
set_option linter.unusedSimpArgs false
set_option linter.unusedVariables false

/-- All old blocks but these are as they were. -/
structure Fs (bs : List Nat) (w w' : World) : Prop where
  os : w'.os = w.os
  tape : w'.tape = w.tape
  output : w'.output = w.output
  size : w.heap.size ≤ w'.heap.size
  block : ∀ b, b < w.heap.size → b ∉ bs → w'.heap[b]? = w.heap[b]?
theorem Fs.trans {bs : List Nat} {a b c : World} (h : Fs bs a b) (k : Fs bs b c) : Fs bs a c := ⟨k.os.trans h.os, k.tape.trans h.tape, k.output.trans h.output, Nat.le_trans h.size k.size, fun i hi hn => (k.block i (Nat.lt_of_lt_of_le hi h.size) hn).trans (h.block i hi hn)⟩
theorem Fs.mono {bs cs : List Nat} {a b : World} (h : Fs bs a b) (hs : ∀ x ∈ bs, x ∈ cs) : Fs cs a b := ⟨h.os, h.tape, h.output, h.size, fun i hi hn => h.block i hi (fun hm => hn (hs i hm))⟩
theorem Fs.of_below {bs : List Nat} {w w' : World} (h : Below w.heap.size w w') : Fs bs w w' := ⟨h.os, h.tape, h.output, h.size, fun b hb _ => h.block b hb⟩
theorem Fs.below {bs : List Nat} {B : Nat} {w w' : World} (h : Fs bs w w') (hB : ∀ b ∈ bs, B ≤ b) (hw : B ≤ w.heap.size) : Below B w w' := ⟨h.os, h.tape, h.output, h.size, fun k hk => h.block k (by omega) (fun hm => by have := hB k hm; omega)⟩
theorem Fs.cell {bs : List Nat} {w w' : World} (h : Fs bs w w') {a : Addr} {u : Value} (hc : w.cell? a = some u) (hn : a.block ∉ bs) : w'.cell? a = some u :=
  (World.cell?_of_block (h.block a.block (World.block_lt_of_cell? w a hc) hn)).trans hc
theorem Fs.own {bs : List Nat} {w w' : World} (h : Fs bs w w') {d : Nat} {s : Value} {T : Tr d} {cs : List Nat} (ho : Own w d s T cs) (hlt : ∀ b ∈ cs, b < w.heap.size ∧ b ∉ bs) : Own w' d s T cs := ho.frame (fun b hb => h.block b (hlt b hb).1 (hlt b hb).2)

end Go.Proofs.Ytlhfbhidgabgbaa
