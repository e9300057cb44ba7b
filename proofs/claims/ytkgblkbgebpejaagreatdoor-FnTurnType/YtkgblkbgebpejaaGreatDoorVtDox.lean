/- What steps do: to numbers, to what was set, to what was told; as the model does them. -/
import Derived.Test.YtkgblkbgebpejaaGreatDoorVtOdd
import Derived.Laws.OwnMore
import Derived.Maps.AppendAt
namespace Go.Proofs.YtkgblkbgebpejaaGreatDoor
open Go.RowKit
set_option linter.unusedSimpArgs false
set_option linter.unusedVariables false
attribute [local go_sem] World.cell?_alloc_some

/-- A program that is being done: its numbers, what was set, what was told. -/
structure RSt where
  n : List Int
  ws : List (Int × Int)
  ss : List (Int × Int)
/-- What a value comes to. -/
def numV (vk va vb : Int) (ns : List Int) : Int := if vk = 1 then va else if vk = 2 then ns.getD va.toNat 0 else if vk = 3 then Int.tmod (ns.getD va.toNat 0 + ns.getD vb.toNat 0) 10 else if ns.getD va.toNat 0 = ns.getD vb.toNat 0 then 1 else 0
def stepS {α : Type} (f : α → RSt → RSt) (x : Pay × α × α) (s : RSt) : RSt :=
  if x.1.k = 1 then ⟨s.n.set x.1.v.toNat (numV x.1.vk x.1.va x.1.vb s.n), s.ws ++ [(x.1.v, numV x.1.vk x.1.va x.1.vb s.n)], s.ss⟩
  else if x.1.k = 3 then ⟨s.n, s.ws, s.ss ++ [(x.1.h, s.n.getD x.1.v.toNat 0)]⟩
  else if s.n.getD x.1.v.toNat 0 ≠ 0 then f x.2.1 s else f x.2.2 s
/-- What comes of steps. -/
def doT : (d : Nat) → Tr d → RSt → RSt
  | 0, _, s => s
  | d + 1, (l : List (Pay × Tr d × Tr d)), s => l.foldl (fun s x => stepS (doT d) x s) s
end Go.Proofs.YtkgblkbgebpejaaGreatDoor

namespace Go.Proofs.YtkgblkbgebpejaaGreatDoor
open Go.RowKit
set_option linter.unusedSimpArgs false
set_option linter.unusedVariables false

/-- A row is where it was, or in memory from there on. -/
def Nx (N : Nat) (v v' : Value) : Prop := v'.ownBlock = v.ownBlock ∨ ∀ b, v'.ownBlock = some b → N ≤ b
theorem Nx.refl (N : Nat) (v : Value) : Nx N v v := .inl rfl
theorem Nx.mono {N M : Nat} {v v' : Value} (h : Nx N v v') (hM : M ≤ N) : Nx M v v' := h.imp id (fun k b hb => Nat.le_trans hM (k b hb))
theorem Nx.trans {N M : Nat} {v v1 v2 : Value} (h : Nx N v v1) (k : Nx M v1 v2) (hNM : N ≤ M) : Nx N v v2 := by
  rcases k with k | k
  · rcases h with h | h
    · exact .inl (k.trans h)
    · exact .inr fun b hb => h b (k ▸ hb)
  · exact .inr fun b hb => Nat.le_trans hNM (k b hb)
theorem Nx.ne {N : Nat} {v v' : Value} (h : Nx N v v') {b : Nat} (h1 : v.ownBlock ≠ some b) (h2 : b < N) : v'.ownBlock ≠ some b := by
  rcases h with h | h
  · rw [h]; exact h1
  · intro e; have := h b e; omega
/-- All old blocks but those of three rows are as they were. -/
structure Kx (nv wv sv : Value) (w w' : World) : Prop where
  os : w'.os = w.os
  tape : w'.tape = w.tape
  output : w'.output = w.output
  size : w.heap.size ≤ w'.heap.size
  block : ∀ b, b < w.heap.size → nv.ownBlock ≠ some b → wv.ownBlock ≠ some b → sv.ownBlock ≠ some b → w'.heap[b]? = w.heap[b]?
theorem Kx.of {nv wv sv : Value} {w w' : World} (h : Below w.heap.size w w') : Kx nv wv sv w w' := ⟨h.os, h.tape, h.output, h.size, fun b hb _ _ _ => h.block b hb⟩
theorem Kx.more {nv wv sv : Value} {w w1 w2 : World} (h : Kx nv wv sv w w1) (o : w2.os = w1.os) (t : w2.tape = w1.tape) (p : w2.output = w1.output) (z : w1.heap.size ≤ w2.heap.size)
    (k : ∀ b, b < w.heap.size → nv.ownBlock ≠ some b → wv.ownBlock ≠ some b → sv.ownBlock ≠ some b → w2.heap[b]? = w1.heap[b]?) : Kx nv wv sv w w2 :=
  ⟨o.trans h.os, t.trans h.tape, p.trans h.output, Nat.le_trans h.size z, fun b hb a1 a2 a3 => (k b hb a1 a2 a3).trans (h.block b hb a1 a2 a3)⟩
theorem Kx.trans {N : Nat} {nv wv sv wv1 sv1 : Value} {w w1 w2 : World} (h : Kx nv wv sv w w1) (k : Kx nv wv1 sv1 w1 w2) (hw : Nx N wv wv1) (hs : Nx N sv sv1) (hN : w.heap.size ≤ N) : Kx nv wv sv w w2 :=
  h.more k.os k.tape k.output k.size (fun b hb a1 a2 a3 => k.block b (Nat.lt_of_lt_of_le hb h.size) a1 (hw.ne a2 (by omega)) (hs.ne a3 (by omega)))
theorem Kx.set {nv wv sv : Value} {w w1 : World} (h : Kx nv wv sv w w1) (a : Addr) (u : Value) (ha : w.heap.size ≤ a.block ∨ nv.ownBlock = some a.block) : Kx nv wv sv w (w1.setCell a u) :=
  h.more rfl rfl rfl (by simp [World.setCell]) (fun b hb a1 _ _ => Below.heap_setCell _ _ _ _ (fun e => by
    subst e
    rcases ha with ha | ha
    · omega
    · exact a1 ha))
theorem Kx.grow {N : Nat} {nv wv sv v1 : Value} {w w1 w2 : World} (h : Kx nv wv sv w w1) (hg : w1.grownBy w2 v1.ownBlock) (hv : Nx N wv v1 ∨ Nx N sv v1) (hN : w.heap.size ≤ N) : Kx nv wv sv w w2 :=
  h.more hg.os hg.tape hg.output hg.size (fun b hb _ a2 a3 => hg.block b (Nat.lt_of_lt_of_le hb h.size) (fun e => by
    rcases hv with hv | hv
    · exact hv.ne a2 (show b < N by omega) e.symm
    · exact hv.ne a3 (show b < N by omega) e.symm))
theorem Kx.below {B : Nat} {nv wv sv : Value} {w w' : World} (h : Kx nv wv sv w w') (hn : ∀ b, nv.ownBlock = some b → B ≤ b) (hw : ∀ b, wv.ownBlock = some b → B ≤ b) (hs : ∀ b, sv.ownBlock = some b → B ≤ b) (hB : B ≤ w.heap.size) : Below B w w' :=
  ⟨h.os, h.tape, h.output, h.size, fun b hb => h.block b (by omega) (fun e => by have := hn b e; omega) (fun e => by have := hw b e; omega) (fun e => by have := hs b e; omega)⟩
theorem rowg_frame {w w' : World} {base : Nat} {e : TypeId} {sz : Nat} {v : Value} {n : Nat} {xs : List Value} (h : w.ownsRow base e sz v n xs) (hb : ∀ b, v.ownBlock = some b → w'.heap[b]? = w.heap[b]?) : w'.ownsRow base e sz v n xs := by
  obtain ⟨h0, h1 | ⟨g, cap, cur, hv, hg, hh, r⟩⟩ := h
  · exact ⟨h0, .inl h1⟩
  · exact ⟨h0, .inr ⟨g, cap, cur, hv, hg, (hb g (by rw [hv]; rfl)).trans hh, r⟩⟩
end Go.Proofs.YtkgblkbgebpejaaGreatDoor
