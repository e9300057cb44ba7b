/-
  A RANGE OVER A FUNCTION, in two bare laws that carry no invariant of their own: what the iterator yields may be told of freely.
  rf_enter: the statement is its iterator's call, at the world with the loop's two blocks.
  rf_round: a call of yield is the body's walk, from the record ready to what the body's end makes of it.
-/
import Derived.RangeFuncKeeps
import Derived.RangeFuncSeq
namespace Go.Proofs.Ytlhfbhidgabgbaa
open Go
namespace Rfy

/-- The loop's record. -/
def recd (fn : FuncId) (a : Act) (ps : Array Tmp) (assign body : Code) (D : Nat) (st : LoopState) (pe : Option Code) : Loop :=
  { state := st, pending := pe, fn := fn, tmps := a.tmps, params := ps, assign := assign, body := body, defers := D }

/-- What the activation is behind the statement: the loop's mark ahead of its deferred calls. -/
def marked (a : Act) (D : Nat) : Act := { a with defers := { target := .collected D, args := #[] } :: a.defers }

variable {F : Fence} {n : Nat} {P : Program}

theorem rf_enter {g : Operand} {ps : Array Tmp} {assign body : Code} {Q : Exit → Act → World → Prop} {a : Act} {w : World}
    (hro : F.round = none) (h1 : 1 ≤ n) {gf : Nat} {lb : Array Value} (hg : a.eval g = .func (.func gf) #[] lb) (hFg : F.fn gf)
    (eg : ∀ args w, (callFunc gf args).run P w = .ok (.enter gf args) w)
    (h : ∀ fn, F.fn fn →
      CallsIn F (n - 1) P gf (#[.func (.yield (w.heap.size + 1)) #[] #[]] ++ lb)
        ((w.alloc (.deferred (some []))).alloc (.loop (recd fn a ps assign body w.heap.size .ready none)))
        (fun e w3 => ∃ v st pe, e = .returned v ∧ st ≠ .busy ∧ w3.heap[w.heap.size + 1]? = some (.loop (recd fn a ps assign body w.heap.size st pe)) ∧
          ∀ w4, w4 = w3.putObj (w.heap.size + 1) (.loop (recd fn a ps assign body w.heap.size .exhausted pe)) →
            (pe = none → Q .normal (marked a w.heap.size) w4) ∧ (∀ c, pe = some c → c.wpIn F n P Q (marked a w.heap.size) w4))) :
    (Code.rangeFunc g ps assign body).wpIn F n P Q a w := by
  refine wpIn_rangeFunc ?_
  intro fn hfn
  rw [hro]
  have h := h fn hfn
  have he := run_enterLoop_outer (P := P) (w := w) fn a.tmps ps assign body
  obtain ⟨W1, hW1⟩ : ∃ W1, (w.alloc (.deferred (some []))).alloc (.loop (recd fn a ps assign body w.heap.size .ready none)) = W1 := ⟨_, rfl⟩
  have he : (Instr.enterLoop fn a.tmps ps assign body none).run P w = .ok (w.heap.size + 1, [{ target := .collected w.heap.size, args := #[] }]) W1 := by
    rw [he, ← hW1]; rfl
  rw [hW1] at h
  clear hW1
  refine ⟨w.heap.size + 1, [{ target := .collected w.heap.size, args := #[] }], W1, { target := .fn (.func gf) lb, args := #[.func (.yield (w.heap.size + 1)) #[] #[]] }, W1, gf,
    #[.func (.yield (w.heap.size + 1)) #[] #[]] ++ lb, W1, he, ?_, ?_, ?_, fun _ => h1, ?_⟩
  · simp only [resolve, hg]
    simp [go_sem]
  · intro f' hf'
    simp [Target.leads] at hf'
    subst hf'
    exact hFg
  · simp [invoke, go_sem, eg]
  · refine h.mono ?_
    intro e w3 hq0
    obtain ⟨v, st, pe, he0, hst, hl, hq⟩ := hq0
    subst he0
    have hend := run_endLoop (P := P) hl hst
    have hq' := hq _ rfl
    cases pe with
    | none => exact ⟨none, _, hend, hq'.1 rfl⟩
    | some c => exact ⟨some c, _, hend, hq'.2 c rfl⟩

/-- What is asked at the end of a round's body. -/
def endPost (l : Nat) (r : LoopState → Option Code → Loop) (R : Ending → World → Prop) : Exit → Act → World → Prop
  | .normal, _, W => W.heap[l]? = some (.loop (r .busy none)) ∧ R (.returned (.bool true)) (W.putObj l (.loop (r .ready none)))
  | .ret, _, W => W.heap[l]? = some (.loop (r .busy none)) ∧ R (.returned (.bool false)) (W.putObj l (.loop (r .done (some .ret))))
  | .exit id, _, W => W.heap[l]? = some (.loop (r .busy none)) ∧ R (.returned (.bool false)) (W.putObj l (.loop (r .done (some (.exit id)))))
  | .goto t, _, W => W.heap[l]? = some (.loop (r .busy none)) ∧ R (.returned (.bool false)) (W.putObj l (.loop (r .done (some (.goto t)))))
  | .panic _, _, _ => False
  | .outgrown, _, _ => False

theorem rf_round {fn : FuncId} {a : Act} {ps : Array Tmp} {assign body : Code} {D l : Nat} {args : Array Value} {W : World} {R : Ending → World → Prop} (hF : F.fn fn)
    (hl : W.heap[l]? = some (.loop (recd fn a ps assign body D .ready none))) (hs : args.size = ps.size)
    (h : assign.wpIn (F.inRound l) n P (Exit.then (fun a₁ w₁ => w₁.heap[l]? = some (.loop (recd fn a ps assign body D .ready none)) ∧
        body.wpIn (F.inRound l) n P (endPost l (recd fn a ps assign body D) R) a₁ (w₁.putObj l (.loop (recd fn a ps assign body D .busy none)))) (fun _ _ _ => False))
      { tmps := (ps.zip args).foldl (fun t (p, v) => t.setIfInBounds p v) a.tmps, defers := [] } W) :
    YieldAt F n P l args W R := by
  refine ⟨fn, _, assign, body, run_yield hl hs, roundIn_of_wpIn hF (wpIn_mono h ?_)⟩
  rintro e a₁ w₁ hq
  cases e with
  | normal =>
    obtain ⟨hl1, hb⟩ := hq
    refine ⟨_, run_beginRound hl1 rfl, wpIn_mono hb ?_⟩
    rintro e₂ a₂ w₂ hq₂
    cases e₂ with
    | normal => exact ⟨_, _, run_endRound none hq₂.1, hq₂.2⟩
    | ret => exact ⟨_, _, run_endRound (some .ret) hq₂.1, hq₂.2⟩
    | exit id => exact ⟨_, _, run_endRound (some (.exit id)) hq₂.1, hq₂.2⟩
    | goto t => exact ⟨_, _, run_endRound (some (.goto t)) hq₂.1, hq₂.2⟩
    | panic ch => exact hq₂.elim
    | outgrown => exact hq₂.elim
  | exit id => exact hq.elim
  | goto t => exact hq.elim
  | ret => exact hq.elim
  | panic ch => exact hq.elim
  | outgrown => exact hq.elim

#print axioms rf_enter
#print axioms rf_round
end Rfy
end Go.Proofs.Ytlhfbhidgabgbaa
