/- Steps cut in two, as they lie in memory. -/
import Derived.Test.YtpmhkhajahoaaaaDoorSpx
import Derived.Test.YtpmhkhajahoaaaaDoorLcx
namespace Go.Proofs.YtpmhkhajahoaaaaDoor
open Go.RowKit
set_option linter.unusedSimpArgs false
set_option linter.unusedVariables false

theorem cnt_app {d : Nat} (a b : List (Pay × Tr d × Tr d)) : cnt (d + 1) (a ++ b : List (Pay × Tr d × Tr d)) = cnt (d + 1) (a : List (Pay × Tr d × Tr d)) + cnt (d + 1) (b : List (Pay × Tr d × Tr d)) := by
  show ((a ++ b).map _).sum = (a.map _).sum + (b.map _).sum
  simp
theorem stB_app {n : Int} {d : Nat} {deep : Int} (a b : List (Pay × Tr d × Tr d)) : stB n (d + 1) deep (a ++ b : List (Pay × Tr d × Tr d)) = (stB n (d + 1) deep (a : List (Pay × Tr d × Tr d)) && stB n (d + 1) deep (b : List (Pay × Tr d × Tr d))) := by
  show List.all (a ++ b) _ = (List.all a _ && List.all b _)
  rw [List.all_append]
theorem progB_cut {ls : List (Int × Int)} {d : Nat} {l : List (Pay × Tr d × Tr d)} (h : progB ls (d + 1) (l : List (Pay × Tr d × Tr d)) = true) (k : Nat) : progB ls (d + 1) (l.take k : List (Pay × Tr d × Tr d)) = true ∧ progB ls (d + 1) (l.drop k : List (Pay × Tr d × Tr d)) = true := by
  have e := List.take_append_drop k l
  rw [← e] at h
  unfold progB at *
  rw [stB_app, cnt_app] at h
  simp only [Bool.and_eq_true, decide_eq_true_eq] at *
  obtain ⟨h1, h2, ⟨h3, h4⟩, h5⟩ := h
  exact ⟨⟨h1, h2, h3, by omega⟩, h1, h2, h4, by omega⟩
theorem rep_take {w : World} {d : Nat} {a : Option Addr} {c : Nat} {l : List (Pay × Tr d × Tr d)} (h : Rep w (d + 1) (.slice a l.length c) (l : List (Pay × Tr d × Tr d))) (k : Nat) (hk : k ≤ l.length) : Rep w (d + 1) (.slice a k c) (l.take k : List (Pay × Tr d × Tr d)) := by
  obtain ⟨a', c', hs, hlc, hcm, hr⟩ := h
  simp only [Value.slice.injEq] at hs
  obtain ⟨rfl, -, rfl⟩ := hs
  refine ⟨a, c, by rw [List.length_take, Nat.min_eq_left hk], by rw [List.length_take]; omega, hcm, fun i hi => ?_⟩
  have hi' : i < l.length := by rw [List.length_take] at hi; omega
  obtain ⟨b, off, t, e, ha, hS, r1, r2⟩ := hr i hi'
  rw [List.getElem_take]
  exact ⟨b, off, t, e, ha, hS, r1, r2⟩
theorem rep_drop {w : World} {d : Nat} {b off c : Nat} {l : List (Pay × Tr d × Tr d)} (h : Rep w (d + 1) (.slice (some ⟨b, off, none⟩) l.length c) (l : List (Pay × Tr d × Tr d))) (k : Nat) (hk : k ≤ l.length) : Rep w (d + 1) (.slice (some ⟨b, off + k * 8, none⟩) (l.length - k) (c - k)) (l.drop k : List (Pay × Tr d × Tr d)) := by
  obtain ⟨a', c', hs, hlc, hcm, hr⟩ := h
  simp only [Value.slice.injEq] at hs
  obtain ⟨rfl, -, rfl⟩ := hs
  refine ⟨_, _, by rw [List.length_drop], by rw [List.length_drop]; omega, by omega, fun i hi => ?_⟩
  rw [List.length_drop] at hi
  obtain ⟨b', off', t, e, ha, hS, r1, r2⟩ := hr (k + i) (by omega)
  simp only [Option.some.injEq, Addr.mk.injEq] at ha
  obtain ⟨rfl, rfl, -⟩ := ha
  rw [List.getElem_drop]
  refine ⟨b, off + k * 8, t, e, rfl, ?_, r1, r2⟩
  rw [show off + k * 8 + i * 8 = off + (k + i) * 8 by rw [Nat.add_mul]; omega]
  exact hS
/-- What stands of steps that are cut: both parts, wherever they lie. -/
theorem rep_cut {w : World} {d : Nat} {sa : Option Addr} {sc k : Nat} {l : List (Pay × Tr d × Tr d)} (h : Rep w (d + 1) (.slice sa l.length sc) (l : List (Pay × Tr d × Tr d))) (hk : k ≤ l.length) :
    ∃ VB : Value, (∀ w', (∀ a v, w.cell? a = some v → w'.cell? a = some v) → Rep w' (d + 1) (.slice sa k sc) (l.take k : List (Pay × Tr d × Tr d)) ∧ Rep w' (d + 1) VB (l.drop k : List (Pay × Tr d × Tr d))) ∧
      ((k = 0 ∧ l.length = 0 ∧ VB = .slice sa l.length sc) ∨ ∃ b off, sa = some ⟨b, off, none⟩ ∧ VB = .slice (some (if sc = k then ⟨b, off, none⟩ else ⟨b, off + k * 8, none⟩)) (l.length - k) (sc - k)) := by
  rcases Nat.eq_zero_or_pos l.length with hz | hpos
  · have hk0 : k = 0 := by omega
    subst hk0
    refine ⟨.slice sa l.length sc, fun w' hw => ⟨rep_take (h.on hw) 0 (by omega), ?_⟩, .inl ⟨rfl, hz, rfl⟩⟩
    have : l.drop 0 = l := by simp
    rw [this]; exact h.on hw
  · obtain ⟨a', c', hs, hlc, hcm, hr⟩ := id h
    obtain ⟨b, off, _, _, ha, -⟩ := hr 0 hpos
    simp only [Value.slice.injEq] at hs
    obtain ⟨rfl, -, rfl⟩ := hs
    subst ha
    refine ⟨_, fun w' hw => ⟨rep_take (h.on hw) k hk, ?_⟩, .inr ⟨b, off, rfl, rfl⟩⟩
    by_cases hsc : sc = k
    · rw [if_pos hsc]
      have hlen : l.length = k := by omega
      have hdr : (l.drop k : List (Pay × Tr d × Tr d)) = [] := by rw [← hlen]; simp
      rw [hdr, show l.length - k = 0 by omega, show sc - k = 0 by omega]
      exact ⟨_, _, rfl, Nat.le_refl _, by unfold maxLen; omega, fun i hi => by simp at hi⟩
    · rw [if_neg hsc]
      exact rep_drop (h.on hw) k hk

end Go.Proofs.YtpmhkhajahoaaaaDoor
