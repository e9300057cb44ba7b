/- Of which programs it is said that they are fine. -/
import Derived.Test.YtpmhkhajahoaaaaDoorTyx
import Derived.Test.YtpmhkhajahoaaaaDoorTma
import Derived.Test.YtpmhkhajahoaaaaDoorDty
namespace Go.Proofs.YtpmhkhajahoaaaaDoor
set_option linter.unusedSimpArgs false
set_option linter.unusedVariables false

theorem okR_iff {ls : List (Int × Int)} {d : Nat} {T : Tr d} (hp : progB ls d T = true) : ((progB ls d T && !(whyR ls d T).2) = true) ↔ ∀ x ∈ prs ls d T topL, fineB ls x.1 x.2 = true := by
  unfold whyR
  rw [hp]
  simp only [if_true, Bool.true_and]
  unfold badI
  cases h : (prs ls d T topL).findIdx? (fun x => !fineB ls x.1 x.2) with
  | none => simpa [List.findIdx?_eq_none_iff] using h
  | some i =>
    simp only [Bool.not_true]
    constructor
    · intro h; cases h
    · intro hall
      obtain ⟨hi, hx, -⟩ := List.findIdx?_eq_some_iff_getElem.1 h
      rw [hall _ (List.getElem_mem hi)] at hx
      cases hx
theorem okR_no {ls : List (Int × Int)} {d : Nat} {T : Tr d} (hp : progB ls d T = false) : (progB ls d T && !(whyR ls d T).2) = false := by rw [hp]; rfl
/-- One label more: all of being done have it besides. -/
theorem prs_and (ls : List (Int × Int)) (c : Int × Int) : ∀ (d : Nat) (T : Tr d) (h : Int × Int), prs ls d T (anL h c) = (prs ls d T h).map (fun x => (x.1, anL x.2 c))
  | 0, _, _ => rfl
  | d + 1, (l : List (Pay × Tr d × Tr d)), h => by
    show List.flatMap _ l = List.map _ (List.flatMap _ l)
    have e : ∀ a : Int × Int, anL (anL h c) a = anL (anL h a) c := fun a => by rw [anL_assoc, anL_comm c a, ← anL_assoc]
    induction l with
    | nil => rfl
    | cons x l ih =>
      simp only [e, prs_and ls c d] at ih
      simp only [List.flatMap_cons, List.map_append, List.map_cons, e, prs_and ls c d]
      rw [ih]
theorem andI_andI {a b : Int} : andI (andI a b) b = andI a b := by simp [andI, Nat.and_assoc]
theorem cov_and {a c x t : Int} (h : covB (andI (andI a c) x) t = true) : covB (andI a x) t = true := by
  unfold covB at h ⊢
  simp only [beq_iff_eq] at h ⊢
  have e : andI (andI a x) (andI (andI (andI a c) x) t) = andI (andI (andI a c) x) t := by
    simp only [andI, Int.toNat_natCast]
    congr 1
    apply Nat.eq_of_testBit_eq
    intro i
    simp only [Nat.testBit_and]
    cases a.toNat.testBit i <;> cases x.toNat.testBit i <;> cases c.toNat.testBit i <;> cases t.toNat.testBit i <;> rfl
  rw [h] at e
  exact e
theorem has_and {a c x h : Int} (h0 : hasB (andI (andI a c) x) h = true) : hasB (andI a x) h = true := by
  have k : ∀ n m : Nat, (((n &&& m : Nat) : Int) / 2 ^ h.toNat % 2 == 1) = (((n : Int) / 2 ^ h.toNat % 2 == 1) && ((m : Int) / 2 ^ h.toNat % 2 == 1)) := by
    intro n m
    have q : ∀ n : Nat, ((n : Int) / 2 ^ h.toNat % 2 == 1) = n.testBit h.toNat := by
      intro n
      have e : ((n : Int) / 2 ^ h.toNat % 2) = ((n / 2 ^ h.toNat % 2 : Nat) : Int) := by simp
      rw [e, Nat.testBit_eq_decide_div_mod_eq]
      have : n / 2 ^ h.toNat % 2 < 2 := Nat.mod_lt _ (by decide)
      by_cases h1 : n / 2 ^ h.toNat % 2 = 1
      · simp [h1]
      · simp [h1]; omega
    rw [q, q, q, Nat.testBit_and]
  unfold hasB andI at h0 ⊢
  simp only [Int.toNat_natCast] at h0 ⊢
  rw [k, k] at h0
  rw [k]
  simp only [Bool.and_eq_true_iff] at h0 ⊢
  exact ⟨h0.1.1, h0.2⟩
theorem fineB_and {ls : List (Int × Int)} {p : Pay} {h c : Int × Int} (hf : fineB ls p (anL h c) = true) : fineB ls p h = true := by
  unfold fineB at hf ⊢
  split
  · rename_i hk
    rw [if_pos hk] at hf
    unfold flL at hf ⊢
    simp only [Bool.and_eq_true_iff] at hf ⊢
    exact ⟨cov_and hf.1, cov_and hf.2⟩
  · rename_i hk
    rw [if_neg hk] at hf
    split
    · rename_i hk3
      rw [if_pos hk3] at hf
      exact has_and hf
    · rfl
/-- What is fine in a step is fine alone. -/
theorem deep_fine {ls : List (Int × Int)} {d : Nat} {T : Tr d} {T2 : Tr d} {v : Int} (hp : progB ls d T = true) (hin : (progB ls (d + 1) ([(⟨2, v, 0, 0, 0, 0⟩, T, T2)] : List (Pay × Tr d × Tr d)) && !(whyR ls (d + 1) ([(⟨2, v, 0, 0, 0, 0⟩, T, T2)] : List (Pay × Tr d × Tr d))).2) = true) : (progB ls d T && !(whyR ls d T).2) = true := by
  cases hq : progB ls (d + 1) ([(⟨2, v, 0, 0, 0, 0⟩, T, T2)] : List (Pay × Tr d × Tr d)) with
  | false => rw [okR_no hq] at hin; cases hin
  | true =>
    rw [okR_iff hq] at hin
    rw [okR_iff hp]
    intro x hx
    have e : prs ls (d + 1) ([(⟨2, v, 0, 0, 0, 0⟩, T, T2)] : List (Pay × Tr d × Tr d)) topL = (⟨2, v, 0, 0, 0, 0⟩, topL) :: (prs ls d T (anL topL (lab ls v)) ++ prs ls d T2 (anL topL (lab ls v))) := by
      show List.flatMap _ [_] = _
      simp
    have h1 := hin (x.1, anL x.2 (lab ls v)) (by
      rw [e, prs_and]
      refine List.mem_cons_of_mem _ (List.mem_append_left _ ?_)
      exact List.mem_map.2 ⟨x, hx, rfl⟩)
    exact fineB_and h1
end Go.Proofs.YtpmhkhajahoaaaaDoor
