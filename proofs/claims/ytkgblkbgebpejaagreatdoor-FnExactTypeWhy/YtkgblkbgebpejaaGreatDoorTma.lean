/- What is said of steps, put together: the first that is not fine, of what is counted already and of what follows. -/
import Derived.Test.YtkgblkbgebpejaaGreatDoorTyp
namespace Go.Proofs.YtkgblkbgebpejaaGreatDoor
set_option linter.unusedSimpArgs false
set_option linter.unusedVariables false

/-- The first that is not fine, behind n others of which the first is known. -/
def badJ (ls : List (Int × Int)) (bd : Option Nat) (n : Nat) (xs : List (Pay × (Int × Int))) : Option Nat := bd.or ((badI ls xs).map (· + n))
theorem badJ_nil (ls : List (Int × Int)) (bd : Option Nat) (n : Nat) : badJ ls bd n [] = bd := by simp [badJ, badI]
theorem badJ_app (ls : List (Int × Int)) (bd : Option Nat) (n : Nat) (xs ys : List (Pay × (Int × Int))) : badJ ls (badJ ls bd n xs) (n + xs.length) ys = badJ ls bd n (xs ++ ys) := by
  unfold badJ badI
  rw [List.findIdx?_append]
  cases bd with
  | some i => simp
  | none =>
    cases h : xs.findIdx? (fun x => !fineB ls x.1 x.2) with
    | some i => simp
    | none =>
      simp only [Option.none_or, Option.map_none, Option.map_map]
      congr 1
      funext k; simp; omega
theorem badJ_cons (ls : List (Int × Int)) (bd : Option Nat) (n : Nat) (x : Pay × (Int × Int)) (ys : List (Pay × (Int × Int))) : badJ ls bd n (x :: ys) = badJ ls (if bd = none ∧ fineB ls x.1 x.2 = false then some n else bd) (n + 1) ys := by
  rw [← List.singleton_append, ← badJ_app]
  congr 1
  unfold badJ badI
  cases bd with
  | some i => simp
  | none =>
    cases h : fineB ls x.1 x.2 <;> simp [h, List.findIdx?_cons]
theorem prs_zero (ls : List (Int × Int)) : ∀ (d : Nat) (T : Tr d) (h : Int × Int), ln d T = 0 → prs ls d T h = []
  | 0, _, _, _ => rfl
  | d + 1, (l : List (Pay × Tr d × Tr d)), h, e => by
    have : l = [] := List.eq_nil_of_length_eq_zero e
    subst this; rfl
theorem setsL_zero (ls : List (Int × Int)) : ∀ (d : Nat) (T : Tr d), ln d T = 0 → setsL ls d T = []
  | 0, _, _ => rfl
  | d + 1, (l : List (Pay × Tr d × Tr d)), e => by
    have : l = [] := List.eq_nil_of_length_eq_zero e
    subst this; rfl
theorem setT_zero (ls : List (Int × Int)) : ∀ (d : Nat) (T : Tr d), ln d T = 0 → setT ls d T = 0
  | 0, _, _ => rfl
  | d + 1, (l : List (Pay × Tr d × Tr d)), e => by
    have : l = [] := List.eq_nil_of_length_eq_zero e
    subst this; rfl
/-- What of a step is said beside those in it. -/
theorem payB_cases {n : Int} {p : Pay} {z : Bool} (h : payB n p z = true) : vIn n p.v = true ∧ ((p.k = 1 ∧ valB n p.vk p.va p.vb = true ∧ z = true) ∨ (p.k = 3 ∧ (0 ≤ p.h ∧ p.h ≤ 2) ∧ z = true) ∨ p.k = 2) := by
  unfold payB at h
  simp only [Bool.and_eq_true_iff] at h
  refine ⟨h.1, ?_⟩
  have h2 := h.2
  split at h2
  · simp only [Bool.and_eq_true_iff] at h2
    exact .inl ⟨by assumption, h2.1.1, h2.2⟩
  · split at h2
    · simp only [Bool.and_eq_true_iff] at h2
      refine .inr (.inl ⟨by assumption, ?_, ?_⟩)
      · have := h2.1.2; simp [vIn] at this; omega
      · exact h2.2
    · split at h2
      · exact .inr (.inr (by assumption))
      · cases h2
end Go.Proofs.YtkgblkbgebpejaaGreatDoor
