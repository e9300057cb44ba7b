/- The rows that have been tried, as they lie while others are tried: a row of rows and of what came of the program. -/
import Derived.Test.YthcgdhlemieboaaGreatDoorSnLeb
import Derived.Test.YthcgdhlemieboaaGreatDoorSnDox
import Derived.Deep.RegionHeld3
import Derived.Test.YthcgdhlemieboaaGreatDoorSnRtx
import Derived.Test.YthcgdhlemieboaaGreatDoorSnRit
import Derived.Test.YthcgdhlemieboaaGreatDoorSnAnx
import Derived.Test.YthcgdhlemieboaaGreatDoorSnImp
import Derived.Test.YthcgdhlemieboaaGreatDoorSnTyx
import Derived.Test.YthcgdhlemieboaaGreatDoorSnLeg
import Derived.Deep.DrawnRows
namespace Go.Proofs.YthcgdhlemieboaaGreatDoor
open Go.RowKit
set_option linter.unusedSimpArgs false
set_option linter.unusedVariables false

structure T4 where
  r : Value
  n : Value
  s : Value
  t : Value
def T4.cells (x : T4) : List Value := [x.r, x.n, x.s, x.t]
def T4.Has (x : T4) (b : Nat) : Prop := x.r.ownBlock = some b ∨ x.n.ownBlock = some b ∨ x.s.ownBlock = some b ∨ x.t.ownBlock = some b

structure One (B : Nat) (w : World) (x : T4) (zs : List Int) (s : RSt) : Prop where
  row : w.ownsRow B 3 1 x.r zs.length (zs.map (Value.int .i64))
  run : R3 B w x.n x.s x.t s

theorem One.frame {B : Nat} {w w' : World} {x : T4} {zs : List Int} {s : RSt} (h : One B w x zs s) (hb : ∀ b, b < w.heap.size → x.Has b → w'.heap[b]? = w.heap[b]?) : One B w' x zs s :=
  ⟨rowg_frame h.row (fun b e => hb b (World.ownsRow.lt h.row b e).2 (.inl e)), h.run.frame (fun b hlt e => hb b hlt (.inr e))⟩
theorem One.lt {B : Nat} {w : World} {x : T4} {zs : List Int} {s : RSt} (h : One B w x zs s) {b : Nat} (e : x.Has b) : B ≤ b ∧ b < w.heap.size := by
  rcases e with e | e | e | e
  · exact World.ownsRow.lt h.row b e
  · exact World.ownsRow.lt h.run.n b e
  · exact World.ownsRow.lt h.run.ws b e
  · exact World.ownsRow.lt h.run.ss b e

structure Ah (B : Nat) (w : World) (A : Nat) (av : Value) (xs : List T4) (f : Nat → List Int) (g : Nat → RSt) : Prop where
  cell : w.cell? ⟨A, 0, none⟩ = some av
  free : w.frozen? ⟨A, 0, none⟩ = false
  row : w.ownsRow B 51 4 av xs.length (xs.flatMap T4.cells)
  one : ∀ j (hj : j < xs.length), One B w xs[j] (f j) (g j)
  far : ∀ j (hj : j < xs.length) b, xs[j].Has b → b ≠ A ∧ av.ownBlock ≠ some b
  self : av.ownBlock ≠ some A

def Ah.Has (A : Nat) (av : Value) (xs : List T4) (b : Nat) : Prop := b = A ∨ av.ownBlock = some b ∨ ∃ j, ∃ hj : j < xs.length, xs[j].Has b

theorem Ah.lt {B : Nat} {w : World} {A : Nat} {av : Value} {xs : List T4} {f : Nat → List Int} {g : Nat → RSt} (h : Ah B w A av xs f g) : A < w.heap.size := by
  have := h.cell
  unfold World.cell? at this
  dsimp only at this
  by_cases hlt : A < w.heap.size
  · exact hlt
  · rw [Array.getElem?_eq_none (by omega)] at this
    cases this
theorem Ah.frame {B : Nat} {w w' : World} {A : Nat} {av : Value} {xs : List T4} {f : Nat → List Int} {g : Nat → RSt} (h : Ah B w A av xs f g)
    (hb : ∀ b, b < w.heap.size → Ah.Has A av xs b → w'.heap[b]? = w.heap[b]?) : Ah B w' A av xs f g := by
  have hA := h.lt
  have eA := hb A hA (.inl rfl)
  refine ⟨?_, ?_, rowg_frame h.row (fun b e => hb b (World.ownsRow.lt h.row b e).2 (.inr (.inl e))), fun j hj => (h.one j hj).frame (fun b hlt e => hb b hlt (.inr (.inr ⟨j, hj, e⟩))), h.far, h.self⟩
  · have := h.cell
    unfold World.cell? at this ⊢
    dsimp only at this ⊢
    rw [eA]
    exact this
  · have := h.free
    unfold World.frozen? at this ⊢
    dsimp only at this ⊢
    rw [eA]
    exact this

theorem Ah.push {B : Nat} {w w' : World} {A : Nat} {av v' : Value} {xs : List T4} {x : T4} {f : Nat → List Int} {g : Nat → RSt} (h : Ah B w A av xs f g)
    (ho : w'.ownsRow B 51 4 v' (xs.length + 1) (xs.flatMap T4.cells ++ x.cells)) (hg : w.grownBy w' av.ownBlock) (ha : v'.ownBlock = av.ownBlock ∨ v'.ownBlock = some w.heap.size)
    (h1 : One B w x (f xs.length) (g xs.length)) (hx : ∀ b, x.Has b → b ≠ A ∧ av.ownBlock ≠ some b) :
    Ah B (w'.setCell ⟨A, 0, none⟩ v') A v' (xs ++ [x]) f g := by
  have hA := h.lt
  have eA : w'.heap[A]? = w.heap[A]? := hg.block A hA (fun q => h.self q.symm)
  have cA : w'.cell? ⟨A, 0, none⟩ = some av := by
    have := h.cell
    unfold World.cell? at this ⊢
    dsimp only at this ⊢
    rw [eA]; exact this
  have fA : w'.frozen? ⟨A, 0, none⟩ = false := by
    have := h.free
    unfold World.frozen? at this ⊢
    dsimp only at this ⊢
    rw [eA]; exact this
  have sA : v'.ownBlock ≠ some A := by
    rcases ha with e | e
    · rw [e]; exact h.self
    · rw [e]; intro q; cases q; omega
  have kp : ∀ b, b < w.heap.size → b ≠ A → av.ownBlock ≠ some b → (w'.setCell ⟨A, 0, none⟩ v').heap[b]? = w.heap[b]? := fun b hlt hne hnv =>
    (Below.heap_setCell _ _ _ _ hne).trans (hg.block b hlt (fun q => hnv q.symm))
  have nv : ∀ b, b < w.heap.size → av.ownBlock ≠ some b → v'.ownBlock ≠ some b := fun b hlt hnv => by
    rcases ha with e | e
    · rw [e]; exact hnv
    · rw [e]; intro q; cases q; omega
  refine ⟨World.cell?_setCell_same' _ _ _ (by rw [cA]; rfl), by rw [World.frozen?_setCell]; exact fA, ?_, fun j hj => ?_, fun j hj b e => ?_, sA⟩
  · have := rowg_frame (w' := w'.setCell ⟨A, 0, none⟩ v') ho (fun b e => Below.heap_setCell _ _ _ _ (fun q => by subst q; exact sA e))
    simpa using this
  · by_cases hl : j < xs.length
    · rw [List.getElem_append_left hl]
      exact (h.one j hl).frame (fun b hlt e => kp b hlt (h.far j hl b e).1 (h.far j hl b e).2)
    · have e : j = xs.length := by simp at hj; omega
      subst e
      rw [List.getElem_append_right (Nat.le_refl _)]
      simp only [Nat.sub_self, List.getElem_cons_zero]
      exact h1.frame (fun b hlt e => kp b hlt (hx b e).1 (hx b e).2)
  · by_cases hl : j < xs.length
    · rw [List.getElem_append_left hl] at e
      exact ⟨(h.far j hl b e).1, nv b ((h.one j hl).lt e).2 (h.far j hl b e).2⟩
    · have q : j = xs.length := by simp at hj; omega
      subst q
      rw [List.getElem_append_right (Nat.le_refl _)] at e
      simp only [Nat.sub_self, List.getElem_cons_zero] at e
      exact ⟨(hx b e).1, nv b (h1.lt e).2 (hx b e).2⟩

end Go.Proofs.YthcgdhlemieboaaGreatDoor

namespace Go.Proofs.YthcgdhlemieboaaGreatDoor
open Go.RowKit
set_option linter.unusedSimpArgs false
set_option linter.unusedVariables false
attribute [local go_sem] World.cell?_alloc_some

theorem infoBool : (Tryz.prog.info? 4).map (fun i => (i.zero, i.size, i.bytes)) = some (some (.bool false), 1, 1) := by kernel_rfl

end Go.Proofs.YthcgdhlemieboaaGreatDoor

namespace Go.Proofs.YthcgdhlemieboaaGreatDoor
open Go.RowKit
set_option linter.unusedSimpArgs false
set_option linter.unusedVariables false
attribute [local go_sem] World.cell?_alloc_some

theorem R3.mono {B B' : Nat} {w : World} {nv wv sv : Value} {s : RSt} (h : R3 B w nv wv sv s) (hB : B' ≤ B) : R3 B' w nv wv sv s := by
  have q : ∀ {e : TypeId} {sz : Nat} {v : Value} {n : Nat} {xs : List Value}, w.ownsRow B e sz v n xs → w.ownsRow B' e sz v n xs := by
    intro e sz v n xs h
    obtain ⟨q0, q1 | ⟨g, cap, cur, hv, hg, r⟩⟩ := h
    · exact ⟨q0, .inl q1⟩
    · exact ⟨q0, .inr ⟨g, cap, cur, hv, by omega, r⟩⟩
  exact ⟨q h.n, q h.ws, q h.ss, h.nw, h.ns, h.sw⟩
theorem doT_vars : ∀ (d : Nat) (T : Tr d) (n : Nat) (deep : Int) (s : RSt), stB n d deep T = true → (∀ x ∈ s.ws, vIn n x.1 = true) → ∀ x ∈ (doT d T s).ws, vIn n x.1 = true
  | 0, _, _, _, s, _, h => h
  | d + 1, (l : List (Pay × Tr d × Tr d)), n, deep, s, hs, h => by
    show ∀ x ∈ (l.foldl (fun s x => stepS (doT d) x s) s).ws, vIn n x.1 = true
    have hs' : (l.all fun x => decide (1 ≤ deep) && payB n x.1 (decide (ln d x.2.1 + ln d x.2.2 = 0)) && (stB n d (deep - 1) x.2.1 && stB n d (deep - 1) x.2.2)) = true := hs
    clear hs
    induction l generalizing s with
    | nil => exact h
    | cons y l ih =>
      rw [List.all_cons, Bool.and_eq_true_iff] at hs'
      obtain ⟨hx, hr⟩ := hs'
      simp only [Bool.and_eq_true_iff] at hx
      obtain ⟨⟨_, hp⟩, h1, h2⟩ := hx
      rw [List.foldl_cons]
      refine ih _ ?_ hr
      have hv : vIn n y.1.v = true := by unfold payB at hp; simp only [Bool.and_eq_true_iff] at hp; exact hp.1
      unfold stepS
      split
      · intro x hx
        rcases List.mem_append.1 hx with hx | hx
        · exact h x hx
        · obtain rfl : x = _ := by simpa using hx
          exact hv
      · split
        · exact h
        · split
          · exact doT_vars d _ n _ s h1 h
          · exact doT_vars d _ n _ s h2 h
def DrsPost (w : World) (e : Ending) (w' : World) : Prop := ∃ (a b c : Value) (s : RSt) (vv : Value) (vs : List Bool), e = .returned (.tuple #[.agg #[a, b, c], vv]) ∧ Below w.heap.size w w' ∧ R3 (w.heap.size + 1) w' a b c s ∧ GRep Value.bool w' vv vs ∧ (∀ x ∈ s.ws, vIn vs.length x.1 = true) ∧ s.ws.length ≤ 1048576 ∧ vs.length ≤ 4

end Go.Proofs.YthcgdhlemieboaaGreatDoor

namespace Go.Proofs.YthcgdhlemieboaaGreatDoor
open Go.RowKit
set_option linter.unusedSimpArgs false
set_option linter.unusedVariables false
attribute [local go_sem ↓] Go.wp_at_zero Go.wp_at_succ
attribute [local go_sem] World.cell?_alloc_some

def DpP (w : World) (e : Ending) (w' : World) : Prop := ∃ (lv sv : Value) (ls : List (Int × Int)) (d : Nat) (l : List (Pay × Tr d × Tr d)), e = .returned (.agg #[lv, sv]) ∧ LRepP (fun b => w.heap.size ≤ b) w' lv ls ∧ RepP (fun b => w.heap.size ≤ b) w' (d + 1) sv (l : List (Pay × Tr d × Tr d)) ∧ (1 ≤ ls.length ∧ ls.length ≤ 8) ∧ cnt (d + 1) (l : List (Pay × Tr d × Tr d)) ≤ 400 ∧ Below w.heap.size w w'

end Go.Proofs.YthcgdhlemieboaaGreatDoor

namespace Go.Proofs.YthcgdhlemieboaaGreatDoor
open Go.RowKit
set_option linter.unusedSimpArgs false
set_option linter.unusedVariables false
attribute [local go_sem] World.cell?_alloc_some

end Go.Proofs.YthcgdhlemieboaaGreatDoor
