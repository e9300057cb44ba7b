/- Of which programs it is said that they are fine: cut, and of what everybody may know. -/
import Derived.Test.YtpmhkhajahoaaaaDoorTmb
import Derived.Test.YtpmhkhajahoaaaaDoorTis
namespace Go.Proofs.YtpmhkhajahoaaaaDoor
set_option linter.unusedSimpArgs false
set_option linter.unusedVariables false

/-- A program is fine just if its first steps are, and the rest. -/
theorem less_fine {ls : List (Int × Int)} {d : Nat} {a b : List (Pay × Tr d × Tr d)} (hp : progB ls (d + 1) (a ++ b : List (Pay × Tr d × Tr d)) = true) (ha : progB ls (d + 1) (a : List (Pay × Tr d × Tr d)) = true) (hb : progB ls (d + 1) (b : List (Pay × Tr d × Tr d)) = true) :
    (progB ls (d + 1) (a ++ b : List (Pay × Tr d × Tr d)) && !(whyR ls (d + 1) (a ++ b : List (Pay × Tr d × Tr d))).2) = ((progB ls (d + 1) (a : List (Pay × Tr d × Tr d)) && !(whyR ls (d + 1) (a : List (Pay × Tr d × Tr d))).2) && (progB ls (d + 1) (b : List (Pay × Tr d × Tr d)) && !(whyR ls (d + 1) (b : List (Pay × Tr d × Tr d))).2)) := by
  refine Bool.eq_iff_iff.2 (Iff.trans (okR_iff hp) (Iff.trans ?_ (Iff.trans (and_congr (okR_iff ha) (okR_iff hb)).symm Bool.and_eq_true_iff.symm)))
  rw [prs_append]
  simp only [List.mem_append]
  exact ⟨fun h => ⟨fun x hx => h x (.inl hx), fun x hx => h x (.inr hx)⟩, fun h x hx => hx.elim (h.1 x) (h.2 x)⟩
/-- Where everybody may know, and trusts, everything each program is fine. -/
theorem lab_any (n : Nat) (v : Int) : lab (List.replicate n topL) v = topL ∨ ¬ (v.toNat < n) := by
  by_cases h : v.toNat < n
  · left; unfold lab; simp [List.getD_eq_getElem?_getD, List.getElem?_replicate, h]
  · exact .inr h
theorem top_top : anL topL topL = topL := by decide
theorem prs_any (n : Nat) : ∀ (d : Nat) (T : Tr d) (deep : Int), stB n d deep T = true → ∀ x ∈ prs (List.replicate n topL) d T topL, fineB (List.replicate n topL) x.1 x.2 = true
  | 0, _, _, _ => by intro x hx; cases hx
  | d + 1, (l : List (Pay × Tr d × Tr d)), deep, hs => by
    intro x hx
    obtain ⟨y, hy, hx⟩ := List.mem_flatMap.1 (show x ∈ List.flatMap _ l from hx)
    have hs' : (l.all fun x => decide (1 ≤ deep) && payB n x.1 (decide (ln d x.2.1 + ln d x.2.2 = 0)) && (stB n d (deep - 1) x.2.1 && stB n d (deep - 1) x.2.2)) = true := hs
    have hq := List.all_eq_true.1 hs' y hy
    simp only [Bool.and_eq_true_iff] at hq
    obtain ⟨hv, hk⟩ := payB_cases hq.1.2
    have hvl : lab (List.replicate n topL) y.1.v = topL := by
      rcases lab_any n y.1.v with h | h
      · exact h
      · have : 0 ≤ y.1.v ∧ y.1.v < n := by simpa [vIn] using hv
        omega
    rw [hvl, top_top] at hx
    rcases List.mem_cons.1 hx with rfl | hx
    · unfold fineB
      rcases hk with ⟨hk, hB, -⟩ | ⟨hk, hh, -⟩ | hk
      · simp only [hk, if_true]
        rw [hvl]
        obtain ⟨hvk, hvr⟩ := valB_vars hB
        have hl : ∀ v ∈ varsL y.1.vk y.1.va y.1.vb, lab (List.replicate n topL) v = topL := fun v hm => by
          rcases lab_any n v with h | h
          · exact h
          · have := hvr v hm; omega
        have : valL (List.replicate n topL) y.1.vk y.1.va y.1.vb = topL := by
          rcases hvk with h | h | h | h
          · simp [valL, h]
          · have := hl y.1.va (by simp [varsL, h])
            simp [valL, h, this]
          · have h1 := hl y.1.va (by simp [varsL, h])
            have h2 := hl y.1.vb (by simp [varsL, h])
            simp [valL, h, h1, h2, top_top]
          · have h1 := hl y.1.va (by simp [varsL, h])
            have h2 := hl y.1.vb (by simp [varsL, h])
            simp [valL, h, h1, h2, top_top]
        rw [this, top_top]; decide
      · simp only [hk]
        rw [if_neg (by decide), if_pos trivial, hvl]
        have : y.1.h = 0 ∨ y.1.h = 1 ∨ y.1.h = 2 := by omega
        rcases this with h | h | h <;> rw [h] <;> decide
      · simp [hk]
    · rcases List.mem_append.1 hx with hx | hx
      · exact prs_any n d _ _ hq.2.1 x hx
      · exact prs_any n d _ _ hq.2.2 x hx
theorem progB_any {ls : List (Int × Int)} {d : Nat} {T : Tr d} (h : progB ls d T = true) : progB (List.replicate ls.length topL) d T = true := by
  have h1 := progB_len h
  have h2 := progB_st h
  have h3 := progB_cnt h
  unfold progB
  simp only [Bool.and_eq_true_iff, decide_eq_true_eq, List.length_replicate]
  refine ⟨h1, ?_, h2, h3⟩
  exact List.all_eq_true.2 fun x hx => by rw [(List.mem_replicate.1 hx).2]; decide
theorem any_fine {ls : List (Int × Int)} {d : Nat} {T : Tr d} (h : progB ls d T = true) : (progB (List.replicate ls.length topL) d T && !(whyR (List.replicate ls.length topL) d T).2) = true := by
  rw [okR_iff (progB_any h)]
  exact prs_any ls.length d T 3 (progB_st h)
end Go.Proofs.YtpmhkhajahoaaaaDoor
