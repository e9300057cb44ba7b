/- All steps in one row, as they are counted. -/
import Derived.Test.YtpcmhkcahajdgaaPcs
import Derived.Test.YtpcmhkcahajdgaaFit
namespace Go.Proofs.Ytpcmhkcahajdgaa
open Go.RowKit
set_option linter.unusedSimpArgs false
set_option linter.unusedVariables false

def cells8 (p : Pay) (t e : Value) : List Value := [.int .i64 p.k, .int .i64 p.v, .int .i64 p.vk, .int .i64 p.va, .int .i64 p.vb, .int .i64 p.h, t, e]
/-- All steps, each ahead of those in it. -/
def flat : (d : Nat) → Tr d → List (Σ k, Pay × Tr k × Tr k)
  | 0, _ => []
  | d + 1, (l : List (Pay × Tr d × Tr d)) => l.flatMap fun x => ⟨d, x⟩ :: (flat d x.2.1 ++ flat d x.2.2)
/-- A row of cells holds these steps; those in them lie in the old memory. -/
def FlatR (W : World) : List (Σ k, Pay × Tr k × Tr k) → List Value → Prop
  | [], xs => xs = []
  | x :: fs, xs => ∃ t e ys, xs = cells8 x.2.1 t e ++ ys ∧ Rep W x.1 t x.2.2.1 ∧ Rep W x.1 e x.2.2.2 ∧ FlatR W fs ys
theorem FlatR.app {W : World} : ∀ {fs gs : List (Σ k, Pay × Tr k × Tr k)} {xs ys : List Value}, FlatR W fs xs → FlatR W gs ys → FlatR W (fs ++ gs) (xs ++ ys)
  | [], gs, xs, ys, h, k => by
    have h' : xs = [] := h
    subst h'; exact k
  | x :: fs, gs, xs, ys, h, k => by
    obtain ⟨t, e, zs, rfl, r1, r2, h⟩ := h
    exact ⟨t, e, zs ++ ys, by simp, r1, r2, FlatR.app h k⟩
theorem flat_length : ∀ (d : Nat) (T : Tr d), (flat d T).length = cnt d T
  | 0, _ => rfl
  | d + 1, (l : List (Pay × Tr d × Tr d)) => by
    show (l.flatMap fun x => (⟨d, x⟩ : Σ k, Pay × Tr k × Tr k) :: (flat d x.2.1 ++ flat d x.2.2)).length = (l.map fun x => 1 + cnt d x.2.1 + cnt d x.2.2).sum
    rw [List.length_flatMap]
    congr 1
    apply List.map_congr_left
    intro x _
    simp [flat_length d]; omega
theorem flat_take {d : Nat} (l : List (Pay × Tr d × Tr d)) (i : Nat) (hi : i < l.length) : flat (d + 1) (l.take (i + 1) : List (Pay × Tr d × Tr d)) = flat (d + 1) (l.take i : List (Pay × Tr d × Tr d)) ++ (⟨d, l[i]⟩ :: (flat d l[i].2.1 ++ flat d l[i].2.2)) := by
  show (l.take (i + 1)).flatMap _ = (l.take i).flatMap _ ++ _
  rw [List.take_succ_eq_append_getElem hi, List.flatMap_append]; simp

theorem payB_form (n : Int) (p : Pay) (z : Bool) :
    payB n p z = (stForm p.k (valForm p.vk p.vb) (decide (p.vk = 0 ∧ p.va = 0 ∧ p.vb = 0)) (decide (p.h = 0)) z &&
      (if p.k = 1 then vIn n p.v && valFit n p.vk p.va p.vb else if p.k = 2 then vIn n p.v else vIn n p.v && vIn 3 p.h)) := by
  obtain ⟨k, v, vk, va, vb, h⟩ := p
  unfold payB stForm
  dsimp only
  by_cases h1 : k = 1
  · subst h1
    simp only [if_true]
    have : valB n vk va vb = (valForm vk vb && valFit n vk va vb) := by
      unfold valB valForm valFit
      by_cases a1 : vk = 1
      · subst a1; simp [Bool.and_comm]
      by_cases a2 : vk = 2
      · subst a2; simp [Bool.and_comm]
      · simp [a1, a2]
    rw [this]
    cases vIn n v <;> cases valForm vk vb <;> cases valFit n vk va vb <;> cases decide (h = 0) <;> cases z <;> rfl
  by_cases h2 : k = 2
  · subst h2
    simp [nonV]
    cases vIn n v <;> simp [Bool.and_assoc]
  by_cases h3 : k = 3
  · subst h3
    simp [nonV]
    cases vIn n v <;> cases vIn 3 h <;> cases z <;> simp [Bool.and_assoc]
  · simp [h1, h2, h3]

end Go.Proofs.Ytpcmhkcahajdgaa
