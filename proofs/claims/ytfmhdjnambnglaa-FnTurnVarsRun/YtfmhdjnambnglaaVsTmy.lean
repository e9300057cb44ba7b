/- A program that is turned, and turned back. -/
import Derived.Test.YtfmhdjnambnglaaVsTpc
import Derived.Test.YtfmhdjnambnglaaVsTsh
namespace Go.Proofs.Ytfmhdjnambnglaa
open Go.RowKit
set_option linter.unusedSimpArgs false
set_option linter.unusedVariables false

/-- Turned back a name is as it was. -/
theorem back_of {zs : List Int} {n : Nat} (hr : rowB zs n = true) (hn : n ≤ 4) {v : Int} (h0 : 0 ≤ v) (h1 : v < n) : (backL zs).getD (zs.getD v.toNat 0).toNat 0 = v := by
  rw [back_at hr hn v.toNat (by omega)]; omega
theorem row_getD {zs : List Int} {n : Nat} (hr : rowB zs n = true) {v : Int} (h0 : 0 ≤ v) (h1 : v < n) : 0 ≤ zs.getD v.toNat 0 ∧ zs.getD v.toNat 0 < n := by
  have hl := rowB_len hr
  have hi : v.toNat < zs.length := by omega
  have := rowB_in hr v.toNat hi
  rwa [List.getD_eq_getElem?_getD, List.getElem?_eq_getElem hi, Option.getD_some]
theorem var_pay {zs : List Int} {n : Nat} (hr : rowB zs n = true) (p : Pay) (z : Bool) (h : payB n p z = true) : payB n (varF zs p) z = true := by
  obtain ⟨⟨v0, v1⟩, hk⟩ := okP_var ⟨z, h⟩
  obtain ⟨a0, a1⟩ := row_getD hr v0 v1
  obtain ⟨pk, pv, pvk, pva, pvb, ph⟩ := p
  unfold varF
  generalize zs.getD pv.toNat 0 = x at *
  unfold payB valB nonV at h ⊢
  dsimp only at v0 v1 hk h ⊢
  rcases hk with ⟨h1, hk⟩ | ⟨h1, hk⟩ | ⟨h1, hk, b0, b1⟩ | ⟨h1, hk, ⟨b0, b1⟩, c0, c1⟩ | ⟨h1, hk, ⟨b0, b1⟩, c0, c1⟩
  · subst hk; simp [vIn, h1] at h ⊢; exact ⟨⟨a0, a1⟩, h.2⟩
  · subst hk h1; simp [vIn] at h ⊢; exact ⟨⟨a0, a1⟩, h.2⟩
  · obtain ⟨q0, q1⟩ := row_getD hr b0 b1
    subst hk h1; simp [vIn] at h ⊢; exact ⟨⟨a0, a1⟩, ⟨⟨by simpa using ⟨q0, q1⟩, h.2.1.1.2⟩, h.2.1.2⟩, h.2.2⟩
  · obtain ⟨q0, q1⟩ := row_getD hr b0 b1
    obtain ⟨r0, r1⟩ := row_getD hr c0 c1
    subst hk h1; simp [vIn] at h ⊢; exact ⟨⟨a0, a1⟩, ⟨⟨by simpa using ⟨q0, q1⟩, by simpa using ⟨r0, r1⟩⟩, h.2.1.2⟩, h.2.2⟩
  · obtain ⟨q0, q1⟩ := row_getD hr b0 b1
    obtain ⟨r0, r1⟩ := row_getD hr c0 c1
    subst hk h1; simp [vIn] at h ⊢; exact ⟨⟨a0, a1⟩, ⟨⟨by simpa using ⟨q0, q1⟩, by simpa using ⟨r0, r1⟩⟩, h.2.1.2⟩, h.2.2⟩
theorem var_back {zs : List Int} {n : Nat} (hr : rowB zs n = true) (hn : n ≤ 4) {d : Nat} {T : Tr d} (h : allP (okP n) d T) : mapT (varF (backL zs)) d (mapT (varF zs) d T) = T := by
  rw [mapT_mapT]
  refine mapT_id (P := okP n) (fun p hp => ?_) d T h
  obtain ⟨⟨v0, v1⟩, hk⟩ := okP_var hp
  have ev := back_of hr hn v0 v1
  obtain ⟨pk, pv, pvk, pva, pvb, ph⟩ := p
  dsimp only at v0 v1 hk ev
  unfold varF
  dsimp only
  rw [ev]
  rcases hk with ⟨_, hk⟩ | ⟨_, hk⟩ | ⟨_, hk, a0, a1⟩ | ⟨_, hk, ⟨a0, a1⟩, b0, b1⟩ | ⟨_, hk, ⟨a0, a1⟩, b0, b1⟩
  · subst hk; rfl
  · subst hk; rfl
  · subst hk
    have := back_of hr hn a0 a1
    simp only [List.getD_eq_getElem?_getD] at this
    simp [this]
  · subst hk
    have e1 := back_of hr hn a0 a1
    have e2 := back_of hr hn b0 b1
    simp only [List.getD_eq_getElem?_getD] at e1 e2
    simp [e1, e2]
  · subst hk
    have e1 := back_of hr hn a0 a1
    have e2 := back_of hr hn b0 b1
    simp only [List.getD_eq_getElem?_getD] at e1 e2
    simp [e1, e2]
theorem movL_row {zs : List Int} {ls : List (Int × Int)} (hr : rowB zs ls.length = true) (hn : ls.length ≤ 4) (j : Nat) (hj : j < ls.length) : ∃ i, i < ls.length ∧ (zs.getD i 0).toNat = j ∧ (movL zs ls)[j]? = ls[i]? := by
  have hbr := back_row hr hn
  obtain ⟨b0, b1⟩ := row_getD (v := (j : Int)) hbr (by omega) (by omega)
  rw [Int.toNat_natCast] at b0 b1
  have hbb : backL (backL zs) = zs := by
    have := row4 (P := fun zs n => decide (backL (backL zs) = zs)) (by decide +kernel) hr hn
    simpa using this
  have e := back_at hbr hn j hj
  rw [hbb] at e
  refine ⟨((backL zs).getD j 0).toNat, by omega, by rw [e]; omega, ?_⟩
  have := movL_at hr ((backL zs).getD j 0).toNat (by omega)
  rw [e] at this
  simpa using this
theorem movL_back {zs : List Int} {ls : List (Int × Int)} (hr : rowB zs ls.length = true) (hn : ls.length ≤ 4) : movL (backL zs) (movL zs ls) = ls := by
  have hml := movL_len zs ls
  have hbr : rowB (backL zs) (movL zs ls).length = true := by rw [hml]; exact back_row hr hn
  refine List.ext_getElem? fun i => ?_
  by_cases hi : i < ls.length
  · obtain ⟨a0, a1⟩ := row_getD (v := (i : Int)) hr (by omega) (by omega)
    rw [Int.toNat_natCast] at a0 a1
    have := movL_at hbr (zs.getD i 0).toNat (by omega)
    rw [back_at hr hn i hi, Int.toNat_natCast] at this
    rw [this]
    exact movL_at hr i hi
  · rw [List.getElem?_eq_none (by rw [movL_len, hml]; omega), List.getElem?_eq_none (by omega)]
theorem movL_ok {zs : List Int} {ls : List (Int × Int)} (hr : rowB zs ls.length = true) (hn : ls.length ≤ 4) (h : labsB ls = true) : labsB (movL zs ls) = true := by
  refine List.all_eq_true.2 fun y hy => ?_
  obtain ⟨j, hj, rfl⟩ := List.mem_iff_getElem.1 hy
  obtain ⟨i, hi, -, e⟩ := movL_row hr hn j (by rwa [movL_len] at hj)
  rw [List.getElem?_eq_getElem hj, List.getElem?_eq_getElem hi] at e
  rw [Option.some.inj e]
  exact List.all_eq_true.1 h _ (List.getElem_mem hi)
/-- A program whose variables are turned is one, as big as it was; turned back it is as it was. -/
theorem vars_back {zs : List Int} {ls : List (Int × Int)} {d : Nat} {T : Tr d} (h : tvOk zs ls d T = true) :
    progB ls d T = true ∧ rowB zs ls.length = true ∧ (tvL zs ls d T).length = ls.length ∧ progB (tvL zs ls d T) d (tvT zs ls d T) = true ∧ cnt d (tvT zs ls d T) = cnt d T ∧
    tvOk (backL zs) (tvL zs ls d T) d (tvT zs ls d T) = true ∧ tvL (backL zs) (tvL zs ls d T) d (tvT zs ls d T) = ls ∧ tvT (backL zs) (tvL zs ls d T) d (tvT zs ls d T) = T := by
  have e1 : tvL zs ls d T = movL zs ls := by unfold tvL; rw [if_pos h]
  have e2 : tvT zs ls d T = mapT (varF zs) d T := by unfold tvT; rw [if_pos h]
  rw [e1, e2]
  unfold tvOk at h
  rw [Bool.and_eq_true] at h
  obtain ⟨hp, hr⟩ := h
  obtain ⟨l4, hl, hs, c8⟩ := progB4 hp
  have hq : progB (movL zs ls) d (mapT (varF zs) d T) = true := by
    unfold progB
    rw [movL_len, cnt_mapT]
    simp only [Bool.and_eq_true, decide_eq_true_eq]
    exact ⟨l4, movL_ok hr l4 hl, stB_mapT (fun p z h => var_pay hr p z h) d 3 T hs, c8⟩
  have hok : tvOk (backL zs) (movL zs ls) d (mapT (varF zs) d T) = true := by unfold tvOk; rw [hq, movL_len, back_row hr l4]; rfl
  refine ⟨hp, hr, movL_len _ _, hq, cnt_mapT _ _ _, hok, ?_, ?_⟩
  · unfold tvL; rw [if_pos hok, movL_back hr l4]
  · unfold tvT; rw [if_pos hok, var_back hr l4 (allP_of d 3 T hs)]

end Go.Proofs.Ytfmhdjnambnglaa
