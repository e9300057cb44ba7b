/- The rows that have been tried, as they lie while others are tried: a row of rows and of what came of the program. -/
import Derived.Test.YthcgdhlemieboaaGreatTkLeb
import Derived.Test.YthcgdhlemieboaaGreatTkDox
import Derived.Deep.RegionHeld3
import Derived.RangeFuncKeeps
import Derived.RangeFuncSeq
namespace Go.Proofs.YthcgdhlemieboaaGreat
open Go.RowKit
set_option linter.unusedSimpArgs false
set_option linter.unusedVariables false

structure T4 where
  r : Value
  n : Value
  s : Value
  t : Value
def T4.cells (x : T4) : List Value := [x.r, x.n, x.s, x.t]
def T4.Has (x : T4) (b : Nat) : Prop := x.r.ownBlock = some b ∨ x.n.ownBlock = some b ∨ x.s.ownBlock = some b ∨ x.t.ownBlock = some b

structure One (B : Nat) (w : World) (x : T4) (zs : List Int) (s : RSt) : Prop where
  row : w.ownsRow B 3 1 x.r zs.length (zs.map (Value.int .i64))
  run : R3 B w x.n x.s x.t s

theorem One.frame {B : Nat} {w w' : World} {x : T4} {zs : List Int} {s : RSt} (h : One B w x zs s) (hb : ∀ b, b < w.heap.size → x.Has b → w'.heap[b]? = w.heap[b]?) : One B w' x zs s :=
  ⟨rowg_frame h.row (fun b e => hb b (World.ownsRow.lt h.row b e).2 (.inl e)), h.run.frame (fun b hlt e => hb b hlt (.inr e))⟩
theorem One.lt {B : Nat} {w : World} {x : T4} {zs : List Int} {s : RSt} (h : One B w x zs s) {b : Nat} (e : x.Has b) : B ≤ b ∧ b < w.heap.size := by
  rcases e with e | e | e | e
  · exact World.ownsRow.lt h.row b e
  · exact World.ownsRow.lt h.run.n b e
  · exact World.ownsRow.lt h.run.ws b e
  · exact World.ownsRow.lt h.run.ss b e

structure Ah (B : Nat) (w : World) (A : Nat) (av : Value) (xs : List T4) (f : Nat → List Int) (g : Nat → RSt) : Prop where
  cell : w.cell? ⟨A, 0, none⟩ = some av
  free : w.frozen? ⟨A, 0, none⟩ = false
  row : w.ownsRow B 53 4 av xs.length (xs.flatMap T4.cells)
  one : ∀ j (hj : j < xs.length), One B w xs[j] (f j) (g j)
  far : ∀ j (hj : j < xs.length) b, xs[j].Has b → b ≠ A ∧ av.ownBlock ≠ some b
  self : av.ownBlock ≠ some A

def Ah.Has (A : Nat) (av : Value) (xs : List T4) (b : Nat) : Prop := b = A ∨ av.ownBlock = some b ∨ ∃ j, ∃ hj : j < xs.length, xs[j].Has b

theorem Ah.lt {B : Nat} {w : World} {A : Nat} {av : Value} {xs : List T4} {f : Nat → List Int} {g : Nat → RSt} (h : Ah B w A av xs f g) : A < w.heap.size := by
  have := h.cell
  unfold World.cell? at this
  dsimp only at this
  by_cases hlt : A < w.heap.size
  · exact hlt
  · rw [Array.getElem?_eq_none (by omega)] at this
    cases this
theorem Ah.frame {B : Nat} {w w' : World} {A : Nat} {av : Value} {xs : List T4} {f : Nat → List Int} {g : Nat → RSt} (h : Ah B w A av xs f g)
    (hb : ∀ b, b < w.heap.size → Ah.Has A av xs b → w'.heap[b]? = w.heap[b]?) : Ah B w' A av xs f g := by
  have hA := h.lt
  have eA := hb A hA (.inl rfl)
  refine ⟨?_, ?_, rowg_frame h.row (fun b e => hb b (World.ownsRow.lt h.row b e).2 (.inr (.inl e))), fun j hj => (h.one j hj).frame (fun b hlt e => hb b hlt (.inr (.inr ⟨j, hj, e⟩))), h.far, h.self⟩
  · have := h.cell
    unfold World.cell? at this ⊢
    dsimp only at this ⊢
    rw [eA]
    exact this
  · have := h.free
    unfold World.frozen? at this ⊢
    dsimp only at this ⊢
    rw [eA]
    exact this

theorem Ah.push {B : Nat} {w w' : World} {A : Nat} {av v' : Value} {xs : List T4} {x : T4} {f : Nat → List Int} {g : Nat → RSt} (h : Ah B w A av xs f g)
    (ho : w'.ownsRow B 53 4 v' (xs.length + 1) (xs.flatMap T4.cells ++ x.cells)) (hg : w.grownBy w' av.ownBlock) (ha : v'.ownBlock = av.ownBlock ∨ v'.ownBlock = some w.heap.size)
    (h1 : One B w x (f xs.length) (g xs.length)) (hx : ∀ b, x.Has b → b ≠ A ∧ av.ownBlock ≠ some b) :
    Ah B (w'.setCell ⟨A, 0, none⟩ v') A v' (xs ++ [x]) f g := by
  have hA := h.lt
  have eA : w'.heap[A]? = w.heap[A]? := hg.block A hA (fun q => h.self q.symm)
  have cA : w'.cell? ⟨A, 0, none⟩ = some av := by
    have := h.cell
    unfold World.cell? at this ⊢
    dsimp only at this ⊢
    rw [eA]; exact this
  have fA : w'.frozen? ⟨A, 0, none⟩ = false := by
    have := h.free
    unfold World.frozen? at this ⊢
    dsimp only at this ⊢
    rw [eA]; exact this
  have sA : v'.ownBlock ≠ some A := by
    rcases ha with e | e
    · rw [e]; exact h.self
    · rw [e]; intro q; cases q; omega
  have kp : ∀ b, b < w.heap.size → b ≠ A → av.ownBlock ≠ some b → (w'.setCell ⟨A, 0, none⟩ v').heap[b]? = w.heap[b]? := fun b hlt hne hnv =>
    (Below.heap_setCell _ _ _ _ hne).trans (hg.block b hlt (fun q => hnv q.symm))
  have nv : ∀ b, b < w.heap.size → av.ownBlock ≠ some b → v'.ownBlock ≠ some b := fun b hlt hnv => by
    rcases ha with e | e
    · rw [e]; exact hnv
    · rw [e]; intro q; cases q; omega
  refine ⟨World.cell?_setCell_same' _ _ _ (by rw [cA]; rfl), by rw [World.frozen?_setCell]; exact fA, ?_, fun j hj => ?_, fun j hj b e => ?_, sA⟩
  · have := rowg_frame (w' := w'.setCell ⟨A, 0, none⟩ v') ho (fun b e => Below.heap_setCell _ _ _ _ (fun q => by subst q; exact sA e))
    simpa using this
  · by_cases hl : j < xs.length
    · rw [List.getElem_append_left hl]
      exact (h.one j hl).frame (fun b hlt e => kp b hlt (h.far j hl b e).1 (h.far j hl b e).2)
    · have e : j = xs.length := by simp at hj; omega
      subst e
      rw [List.getElem_append_right (Nat.le_refl _)]
      simp only [Nat.sub_self, List.getElem_cons_zero]
      exact h1.frame (fun b hlt e => kp b hlt (hx b e).1 (hx b e).2)
  · by_cases hl : j < xs.length
    · rw [List.getElem_append_left hl] at e
      exact ⟨(h.far j hl b e).1, nv b ((h.one j hl).lt e).2 (h.far j hl b e).2⟩
    · have q : j = xs.length := by simp at hj; omega
      subst q
      rw [List.getElem_append_right (Nat.le_refl _)] at e
      simp only [Nat.sub_self, List.getElem_cons_zero] at e
      exact ⟨(hx b e).1, nv b (h1.lt e).2 (hx b e).2⟩

end Go.Proofs.YthcgdhlemieboaaGreat

namespace Go.Proofs.YthcgdhlemieboaaGreat
open Go
namespace Rfy

def recd (fn : FuncId) (a : Act) (ps : Array Tmp) (assign body : Code) (D : Nat) (st : LoopState) (pe : Option Code) : Loop :=
  { state := st, pending := pe, fn := fn, tmps := a.tmps, params := ps, assign := assign, body := body, defers := D }

def marked (a : Act) (D : Nat) : Act := { a with defers := { target := .collected D, args := #[] } :: a.defers }

variable {F : Fence} {n : Nat} {P : Program}

theorem rf_enter {g : Operand} {ps : Array Tmp} {assign body : Code} {Q : Exit → Act → World → Prop} {a : Act} {w : World}
    (hro : F.round = none) (h1 : 1 ≤ n) {gf : Nat} {lb : Array Value} (hg : a.eval g = .func (.func gf) #[] lb) (hFg : F.fn gf)
    (eg : ∀ args w, (callFunc gf args).run P w = .ok (.enter gf args) w)
    (h : ∀ fn, F.fn fn →
      CallsIn F (n - 1) P gf (#[.func (.yield (w.heap.size + 1)) #[] #[]] ++ lb)
        ((w.alloc (.deferred (some []))).alloc (.loop (recd fn a ps assign body w.heap.size .ready none)))
        (fun e w3 => ∃ v st pe, e = .returned v ∧ st ≠ .busy ∧ w3.heap[w.heap.size + 1]? = some (.loop (recd fn a ps assign body w.heap.size st pe)) ∧
          ∀ w4, w4 = w3.putObj (w.heap.size + 1) (.loop (recd fn a ps assign body w.heap.size .exhausted pe)) →
            (pe = none → Q .normal (marked a w.heap.size) w4) ∧ (∀ c, pe = some c → c.wpIn F n P Q (marked a w.heap.size) w4))) :
    (Code.rangeFunc g ps assign body).wpIn F n P Q a w := by
  refine wpIn_rangeFunc ?_
  intro fn hfn
  rw [hro]
  have h := h fn hfn
  have he := run_enterLoop_outer (P := P) (w := w) fn a.tmps ps assign body
  obtain ⟨W1, hW1⟩ : ∃ W1, (w.alloc (.deferred (some []))).alloc (.loop (recd fn a ps assign body w.heap.size .ready none)) = W1 := ⟨_, rfl⟩
  have he : (Instr.enterLoop fn a.tmps ps assign body none).run P w = .ok (w.heap.size + 1, [{ target := .collected w.heap.size, args := #[] }]) W1 := by
    rw [he, ← hW1]; rfl
  rw [hW1] at h
  clear hW1
  refine ⟨w.heap.size + 1, [{ target := .collected w.heap.size, args := #[] }], W1, { target := .fn (.func gf) lb, args := #[.func (.yield (w.heap.size + 1)) #[] #[]] }, W1, gf,
    #[.func (.yield (w.heap.size + 1)) #[] #[]] ++ lb, W1, he, ?_, ?_, ?_, fun _ => h1, ?_⟩
  · simp only [resolve, hg]
    simp [go_sem]
  · intro f' hf'
    simp [Target.leads] at hf'
    subst hf'
    exact hFg
  · simp [invoke, go_sem, eg]
  · refine h.mono ?_
    intro e w3 hq0
    obtain ⟨v, st, pe, he0, hst, hl, hq⟩ := hq0
    subst he0
    have hend := run_endLoop (P := P) hl hst
    have hq' := hq _ rfl
    cases pe with
    | none => exact ⟨none, _, hend, hq'.1 rfl⟩
    | some c => exact ⟨some c, _, hend, hq'.2 c rfl⟩

def endPost (l : Nat) (r : LoopState → Option Code → Loop) (R : Ending → World → Prop) : Exit → Act → World → Prop
  | .normal, _, W => W.heap[l]? = some (.loop (r .busy none)) ∧ R (.returned (.bool true)) (W.putObj l (.loop (r .ready none)))
  | .ret, _, W => W.heap[l]? = some (.loop (r .busy none)) ∧ R (.returned (.bool false)) (W.putObj l (.loop (r .done (some .ret))))
  | .exit id, _, W => W.heap[l]? = some (.loop (r .busy none)) ∧ R (.returned (.bool false)) (W.putObj l (.loop (r .done (some (.exit id)))))
  | .goto t, _, W => W.heap[l]? = some (.loop (r .busy none)) ∧ R (.returned (.bool false)) (W.putObj l (.loop (r .done (some (.goto t)))))
  | .panic _, _, _ => False
  | .outgrown, _, _ => False

theorem rf_round {fn : FuncId} {a : Act} {ps : Array Tmp} {assign body : Code} {D l : Nat} {args : Array Value} {W : World} {R : Ending → World → Prop} (hF : F.fn fn)
    (hl : W.heap[l]? = some (.loop (recd fn a ps assign body D .ready none))) (hs : args.size = ps.size)
    (h : assign.wpIn (F.inRound l) n P (Exit.then (fun a₁ w₁ => w₁.heap[l]? = some (.loop (recd fn a ps assign body D .ready none)) ∧
        body.wpIn (F.inRound l) n P (endPost l (recd fn a ps assign body D) R) a₁ (w₁.putObj l (.loop (recd fn a ps assign body D .busy none)))) (fun _ _ _ => False))
      { tmps := (ps.zip args).foldl (fun t (p, v) => t.setIfInBounds p v) a.tmps, defers := [] } W) :
    YieldAt F n P l args W R := by
  refine ⟨fn, _, assign, body, run_yield hl hs, roundIn_of_wpIn hF (wpIn_mono h ?_)⟩
  rintro e a₁ w₁ hq
  cases e with
  | normal =>
    obtain ⟨hl1, hb⟩ := hq
    refine ⟨_, run_beginRound hl1 rfl, wpIn_mono hb ?_⟩
    rintro e₂ a₂ w₂ hq₂
    cases e₂ with
    | normal => exact ⟨_, _, run_endRound none hq₂.1, hq₂.2⟩
    | ret => exact ⟨_, _, run_endRound (some .ret) hq₂.1, hq₂.2⟩
    | exit id => exact ⟨_, _, run_endRound (some (.exit id)) hq₂.1, hq₂.2⟩
    | goto t => exact ⟨_, _, run_endRound (some (.goto t)) hq₂.1, hq₂.2⟩
    | panic ch => exact hq₂.elim
    | outgrown => exact hq₂.elim
  | exit id => exact hq.elim
  | goto t => exact hq.elim
  | ret => exact hq.elim
  | panic ch => exact hq.elim
  | outgrown => exact hq.elim

end Rfy
end Go.Proofs.YthcgdhlemieboaaGreat
