/- Steps whose hosts are named otherwise by the model. -/
import Derived.Test.YtfmhdjnambnglaaVsTmt
import Derived.Test.YtfmhdjnambnglaaVsCpy
import Derived.Test.YtfmhdjnambnglaaVsRwx
namespace Go.Proofs.Ytfmhdjnambnglaa
open Go.RowKit
set_option linter.unusedSimpArgs false
set_option linter.unusedVariables false
attribute [local go_sem] World.cell?_alloc_some

/-- What steps turned are. -/
def Tq (F : FuncId) (f : Pay → Pay) (rv : Value) (k : Nat) (T : Tr k) (wx : World) (s : Value) : Prop := Calls Try.prog F #[s, rv] wx fun e w' => ∃ v' bs, e = .returned v' ∧ Below wx.heap.size wx w' ∧ Own w' k v' (mapT f k T) bs ∧ (∀ b ∈ bs, wx.heap.size ≤ b ∧ b < w'.heap.size) ∧ bs.Nodup
theorem okP_var {n : Int} {p : Pay} (h : okP n p) : (0 ≤ p.v ∧ p.v < n) ∧ ((p.k ≠ 1 ∧ p.vk = 0) ∨ (p.k = 1 ∧ p.vk = 1) ∨ (p.k = 1 ∧ p.vk = 2 ∧ 0 ≤ p.va ∧ p.va < n) ∨ (p.k = 1 ∧ p.vk = 3 ∧ (0 ≤ p.va ∧ p.va < n) ∧ (0 ≤ p.vb ∧ p.vb < n)) ∨ (p.k = 1 ∧ p.vk = 4 ∧ (0 ≤ p.va ∧ p.va < n) ∧ (0 ≤ p.vb ∧ p.vb < n))) := by
  obtain ⟨z, h⟩ := h
  unfold payB at h
  simp only [Bool.and_eq_true] at h
  obtain ⟨h0, h1⟩ := h
  simp only [vIn, Bool.and_eq_true, decide_eq_true_eq] at h0
  refine ⟨h0, ?_⟩
  by_cases hk : p.k = 1
  · rw [if_pos hk] at h1
    simp only [Bool.and_eq_true] at h1
    have hv := h1.1.1
    unfold valB at hv
    by_cases v1 : p.vk = 1
    · exact .inr (.inl ⟨hk, v1⟩)
    · rw [if_neg v1] at hv
      by_cases v2 : p.vk = 2
      · rw [if_pos v2] at hv
        simp [vIn] at hv
        exact .inr (.inr (.inl ⟨hk, v2, by omega⟩))
      · rw [if_neg v2] at hv
        by_cases v3 : p.vk = 3 ∨ p.vk = 4
        · rw [if_pos v3] at hv
          simp [vIn] at hv
          rcases v3 with v3 | v3
          · exact .inr (.inr (.inr (.inl ⟨hk, v3, by omega, by omega⟩)))
          · exact .inr (.inr (.inr (.inr ⟨hk, v3, by omega, by omega⟩)))
        · rw [if_neg v3] at hv
          cases hv
  · rw [if_neg hk] at h1
    by_cases k3 : p.k = 3
    · rw [if_pos k3] at h1
      simp [nonV] at h1
      exact .inl ⟨hk, by omega⟩
    · rw [if_neg k3] at h1
      by_cases k2 : p.k = 2
      · rw [if_pos k2] at h1
        simp [nonV] at h1
        exact .inl ⟨hk, by omega⟩
      · rw [if_neg k2] at h1
        cases h1

end Go.Proofs.Ytfmhdjnambnglaa
