/- Programs that are turned: what becomes of their steps. -/
import Derived.Test.YtkgblkbgebpejaaGreatDoorVtTrn
import Derived.Test.YtkgblkbgebpejaaGreatDoorVtOwn
namespace Go.Proofs.YtkgblkbgebpejaaGreatDoor
open Go.RowKit
set_option linter.unusedSimpArgs false
set_option linter.unusedVariables false

/-- Steps, each with what it holds turned. -/
def mapT (f : Pay → Pay) : (d : Nat) → Tr d → Tr d
  | 0, _ => ()
  | d + 1, (l : List (Pay × Tr d × Tr d)) => (l.map fun x => (f x.1, mapT f d x.2.1, mapT f d x.2.2) : List (Pay × Tr d × Tr d))
def mapL (f : Pay → Pay) (d : Nat) (l : List (Pay × Tr d × Tr d)) : List (Pay × Tr d × Tr d) := l.map fun x => (f x.1, mapT f d x.2.1, mapT f d x.2.2)
theorem mapT_succ (f : Pay → Pay) (d : Nat) (l : List (Pay × Tr d × Tr d)) : mapT f (d + 1) (l : List (Pay × Tr d × Tr d)) = (mapL f d l : List (Pay × Tr d × Tr d)) := rfl
theorem mapL_len (f : Pay → Pay) (d : Nat) (l : List (Pay × Tr d × Tr d)) : (mapL f d l).length = l.length := List.length_map _
theorem mapL_get (f : Pay → Pay) (d : Nat) (l : List (Pay × Tr d × Tr d)) (i : Nat) (hi : i < (mapL f d l).length) : (mapL f d l)[i] = (f (l[i]'(by rw [mapL_len] at hi; exact hi)).1, mapT f d (l[i]'(by rw [mapL_len] at hi; exact hi)).2.1, mapT f d (l[i]'(by rw [mapL_len] at hi; exact hi)).2.2) := List.getElem_map _
theorem ln_mapT (f : Pay → Pay) : ∀ (d : Nat) (T : Tr d), ln d (mapT f d T) = ln d T
  | 0, _ => rfl
  | d + 1, (l : List (Pay × Tr d × Tr d)) => mapL_len f d l
theorem cnt_mapT (f : Pay → Pay) : ∀ (d : Nat) (T : Tr d), cnt d (mapT f d T) = cnt d T
  | 0, _ => rfl
  | d + 1, (l : List (Pay × Tr d × Tr d)) => by
    show ((l.map fun x => (f x.1, mapT f d x.2.1, mapT f d x.2.2)).map fun x => 1 + cnt d x.2.1 + cnt d x.2.2).sum = (l.map fun x => 1 + cnt d x.2.1 + cnt d x.2.2).sum
    rw [List.map_map]
    congr 1
    refine List.map_congr_left fun x _ => ?_
    simp only [Function.comp, cnt_mapT f d]
/-- Something holds of what each step holds. -/
def allP (P : Pay → Prop) : (d : Nat) → Tr d → Prop
  | 0, _ => True
  | d + 1, (l : List (Pay × Tr d × Tr d)) => ∀ x ∈ l, P x.1 ∧ allP P d x.2.1 ∧ allP P d x.2.2
def okP (n : Int) (p : Pay) : Prop := ∃ z, payB n p z = true
theorem allP_of {n : Int} : ∀ (d : Nat) (deep : Int) (T : Tr d), stB n d deep T = true → allP (okP n) d T
  | 0, _, _, _ => trivial
  | d + 1, deep, (l : List (Pay × Tr d × Tr d)), h => by
    intro x hx
    have := List.all_eq_true.1 h x hx
    simp only [Bool.and_eq_true, decide_eq_true_eq] at this
    exact ⟨⟨_, this.1.2⟩, allP_of d _ _ this.2.1, allP_of d _ _ this.2.2⟩
theorem mapT_id {f : Pay → Pay} {P : Pay → Prop} (h : ∀ p, P p → f p = p) : ∀ (d : Nat) (T : Tr d), allP P d T → mapT f d T = T
  | 0, _, _ => rfl
  | d + 1, (l : List (Pay × Tr d × Tr d)), ha => by
    have : (l.map fun x => (f x.1, mapT f d x.2.1, mapT f d x.2.2)) = l.map id := List.map_congr_left fun x hx => by
      obtain ⟨h1, h2, h3⟩ := ha x hx
      rw [h _ h1, mapT_id h d _ h2, mapT_id h d _ h3]
      rfl
    show (l.map fun x => (f x.1, mapT f d x.2.1, mapT f d x.2.2)) = l
    rw [this, List.map_id]
theorem mapT_mapT (f g : Pay → Pay) : ∀ (d : Nat) (T : Tr d), mapT f d (mapT g d T) = mapT (fun p => f (g p)) d T
  | 0, _ => rfl
  | d + 1, (l : List (Pay × Tr d × Tr d)) => by
    show ((l.map fun x => (g x.1, mapT g d x.2.1, mapT g d x.2.2)).map fun x => (f x.1, mapT f d x.2.1, mapT f d x.2.2)) = l.map fun x => (f (g x.1), mapT (fun p => f (g p)) d x.2.1, mapT (fun p => f (g p)) d x.2.2)
    rw [List.map_map]
    refine List.map_congr_left fun x _ => ?_
    simp only [Function.comp, mapT_mapT f g d]
/-- What keeps a step in form keeps steps in form. -/
theorem stB_mapT {f : Pay → Pay} {n n' : Int} (h : ∀ p z, payB n p z = true → payB n' (f p) z = true) : ∀ (d : Nat) (deep : Int) (T : Tr d), stB n d deep T = true → stB n' d deep (mapT f d T) = true
  | 0, _, _, _ => rfl
  | d + 1, deep, (l : List (Pay × Tr d × Tr d)), hs => by
    refine List.all_eq_true.2 fun y hy => ?_
    obtain ⟨x, hx, rfl⟩ := List.mem_map.1 hy
    have := List.all_eq_true.1 hs x hx
    simp only [Bool.and_eq_true] at this ⊢
    refine ⟨⟨this.1.1, ?_⟩, stB_mapT h d _ _ this.2.1, stB_mapT h d _ _ this.2.2⟩
    rw [ln_mapT, ln_mapT]
    exact h _ _ this.1.2

/-- A step to hosts by their new names. -/
def hostF (zs : List Int) (p : Pay) : Pay := if p.k = 3 then { p with h := zs.getD p.h.toNat 0 } else p
/-- A step of variables by their new names. -/
def varF (zs : List Int) (p : Pay) : Pay := { p with v := zs.getD p.v.toNat 0, va := if p.vk = 2 ∨ p.vk = 3 ∨ p.vk = 4 then zs.getD p.va.toNat 0 else p.va, vb := if p.vk = 3 ∨ p.vk = 4 then zs.getD p.vb.toNat 0 else p.vb }

end Go.Proofs.YtkgblkbgebpejaaGreatDoor
