/- A turned program is fine just if it was. -/
import Derived.Test.YtkgblkbgebpejaaGreatDoorVtTmy
import Derived.Test.YtkgblkbgebpejaaGreatDoorVtTyp
import Derived.Test.YtkgblkbgebpejaaGreatDoorVtTyx
namespace Go.Proofs.YtkgblkbgebpejaaGreatDoor
open Go.RowKit
set_option linter.unusedSimpArgs false
set_option linter.unusedVariables false

/-- A label of the new names. -/
def turnP (zs : List Int) (a : Int × Int) : Int × Int := (turnI a.1 zs, turnI a.2 zs)
theorem turnP_an {zs : List Int} (hr : rowB zs 3 = true) {a b : Int × Int} (ha : okL a) (hb : okL b) : anL (turnP zs a) (turnP zs b) = turnP zs (anL a b) := by
  unfold anL turnP
  rw [(turn_and hr ha.1.1 ha.1.2 hb.1.1 hb.1.2).1, (turn_and hr ha.2.1 ha.2.2 hb.2.1 hb.2.2).1]
theorem turnP_fl {zs : List Int} (hr : rowB zs 3 = true) {a b : Int × Int} (ha : okL a) (hb : okL b) : flL (turnP zs a) (turnP zs b) = flL a b := by
  unfold flL turnP
  rw [(turn_and hr ha.1.1 ha.1.2 hb.1.1 hb.1.2).2.2, (turn_and hr ha.2.1 ha.2.2 hb.2.1 hb.2.2).2.2]
theorem turnI_ends {zs : List Int} (hr : rowB zs 3 = true) : turnI 7 zs = 7 ∧ turnI 0 zs = 0 := by
  have := row4 (P := fun zs n => decide (n ≠ 3) || decide (turnI 7 zs = 7 ∧ turnI 0 zs = 0)) (by decide +kernel) hr (by omega)
  simpa using this
theorem lab_turn {zs : List Int} (hr : rowB zs 3 = true) (ls : List (Int × Int)) (v : Int) : lab (turnLs zs ls) v = turnP zs (lab ls v) := by
  unfold lab turnLs
  rw [List.getD_eq_getElem?_getD, List.getD_eq_getElem?_getD, List.getElem?_map]
  cases ls[v.toNat]? with
  | none =>
    show ((0 : Int), (0 : Int)) = (turnI 0 zs, turnI 0 zs)
    rw [(turnI_ends hr).2]
  | some a => rfl
theorem topL_turn {zs : List Int} (hr : rowB zs 3 = true) : turnP zs topL = topL := by
  show (turnI 7 zs, turnI 7 zs) = ((7 : Int), (7 : Int))
  rw [(turnI_ends hr).1]
theorem valL_turn {zs : List Int} (hr : rowB zs 3 = true) {ls : List (Int × Int)} (hl : labsB ls = true) (vk va vb : Int) : valL (turnLs zs ls) vk va vb = turnP zs (valL ls vk va vb) := by
  unfold valL
  split
  · exact (topL_turn hr).symm
  · split
    · exact lab_turn hr _ _
    · rw [lab_turn hr, lab_turn hr]; exact turnP_an hr (lab_ok hl _) (lab_ok hl _)
theorem prs_turn {zs : List Int} (hr : rowB zs 3 = true) {ls : List (Int × Int)} (hl : labsB ls = true) : ∀ (d : Nat) (T : Tr d) (h : Int × Int), okL h →
    prs (turnLs zs ls) d (mapT (hostF zs) d T) (turnP zs h) = (prs ls d T h).map fun x => (hostF zs x.1, turnP zs x.2)
  | 0, _, _, _ => rfl
  | d + 1, (l : List (Pay × Tr d × Tr d)), h, ho => by
    show (l.map fun x => (hostF zs x.1, mapT (hostF zs) d x.2.1, mapT (hostF zs) d x.2.2)).flatMap (fun x => (x.1, turnP zs h) :: (prs (turnLs zs ls) d x.2.1 (anL (turnP zs h) (lab (turnLs zs ls) x.1.v)) ++ prs (turnLs zs ls) d x.2.2 (anL (turnP zs h) (lab (turnLs zs ls) x.1.v)))) =
      (l.flatMap fun x => (x.1, h) :: (prs ls d x.2.1 (anL h (lab ls x.1.v)) ++ prs ls d x.2.2 (anL h (lab ls x.1.v)))).map fun x => (hostF zs x.1, turnP zs x.2)
    rw [List.map_flatMap, List.flatMap_map]
    refine congrArg (fun f => l.flatMap f) (funext fun x => ?_)
    have hv : (hostF zs x.1).v = x.1.v := by unfold hostF; split <;> rfl
    have ha := anL_ok ho (lab_ok hl x.1.v)
    simp only [hv, lab_turn hr]
    rw [turnP_an hr ho (lab_ok hl _), prs_turn hr hl d _ _ ha, prs_turn hr hl d _ _ ha]
    simp
theorem prs_okP {ls : List (Int × Int)} (hl : labsB ls = true) {P : Pay → Prop} : ∀ (d : Nat) (T : Tr d) (h : Int × Int), okL h → allP P d T → ∀ x ∈ prs ls d T h, okL x.2 ∧ P x.1
  | 0, _, _, _, _, x, hx => by cases hx
  | d + 1, (l : List (Pay × Tr d × Tr d)), h, ho, hP, x, hx => by
    have hP' : ∀ y ∈ l, P y.1 ∧ allP P d y.2.1 ∧ allP P d y.2.2 := hP
    have hx' : x ∈ l.flatMap fun x => (x.1, h) :: (prs ls d x.2.1 (anL h (lab ls x.1.v)) ++ prs ls d x.2.2 (anL h (lab ls x.1.v))) := hx
    obtain ⟨y, hy, hxy⟩ := List.mem_flatMap.1 hx'
    obtain ⟨h0, h1, h2⟩ := hP' y hy
    have ha := anL_ok ho (lab_ok hl y.1.v)
    rcases List.mem_cons.1 hxy with rfl | hxy
    · exact ⟨ho, h0⟩
    · rcases List.mem_append.1 hxy with hxy | hxy
      · exact prs_okP hl d _ _ ha h1 x hxy
      · exact prs_okP hl d _ _ ha h2 x hxy
theorem fine_turn {zs : List Int} (hr : rowB zs 3 = true) {ls : List (Int × Int)} (hl : labsB ls = true) {n : Int} {p : Pay} {h : Int × Int} (ho : okL h) (hp : okP n p) : fineB (turnLs zs ls) (hostF zs p) (turnP zs h) = fineB ls p h := by
  by_cases h1 : p.k = 1
  · have e : hostF zs p = p := by unfold hostF; rw [if_neg (by omega)]
    rw [e]
    unfold fineB
    rw [if_pos h1, if_pos h1, valL_turn hr hl, lab_turn hr, turnP_an hr ho (valL_ok hl _ _ _), turnP_fl hr (anL_ok ho (valL_ok hl _ _ _)) (lab_ok hl _)]
  · by_cases h3 : p.k = 3
    · have e : hostF zs p = { p with h := zs.getD p.h.toNat 0 } := by unfold hostF; rw [if_pos h3]
      obtain ⟨q0, q1⟩ := okP_host hp h3
      have ha := anL_ok ho (lab_ok hl p.v)
      have ht := turn_has hr ha.1.1 ha.1.2 p.h.toNat (by omega)
      rw [e]
      unfold fineB
      rw [if_neg (by simpa using h1), if_pos (by simpa using h3), if_neg h1, if_pos h3]
      have e2 : andI (turnP zs h).1 (lab (turnLs zs ls) p.v).1 = turnI (andI h.1 (lab ls p.v).1) zs := by rw [lab_turn hr]; exact (turn_and hr ho.1.1 ho.1.2 (lab_ok hl _).1.1 (lab_ok hl _).1.2).1
      show hasB (andI (turnP zs h).1 (lab (turnLs zs ls) p.v).1) (zs.getD p.h.toNat 0) = _
      rw [e2]
      have e3 : (((p.h.toNat : Nat) : Int)) = p.h := by omega
      rw [e3] at ht
      exact ht
    · have e : hostF zs p = p := by unfold hostF; rw [if_neg h3]
      rw [e]
      unfold fineB
      rw [if_neg h1, if_neg h3, if_neg h1, if_neg h3]
/-- Of a turned program the same step is told. -/
theorem why_turn {zs : List Int} {ls : List (Int × Int)} {d : Nat} {T : Tr d} (h : tpOk zs ls d T = true) : whyR (tpL zs ls d T) d (tpT zs ls d T) = whyR ls d T := by
  obtain ⟨hp, hr, hq, -⟩ := turned_back h
  have e1 : tpL zs ls d T = turnLs zs ls := by unfold tpL; rw [if_pos h]
  have e2 : tpT zs ls d T = mapT (hostF zs) d T := by unfold tpT; rw [if_pos h]
  rw [e1, e2] at hq ⊢
  obtain ⟨-, hl, hs, -⟩ := progB4 hp
  have e3 : badI (turnLs zs ls) (prs (turnLs zs ls) d (mapT (hostF zs) d T) topL) = badI ls (prs ls d T topL) := by
    have := prs_turn hr hl d T topL topL_ok
    rw [topL_turn hr] at this
    rw [this]
    unfold badI
    rw [List.findIdx?_map]
    have hk := prs_okP hl d T topL topL_ok (allP_of d 3 T hs)
    generalize prs ls d T topL = xs at hk
    induction xs with
    | nil => rfl
    | cons y xs ih =>
      obtain ⟨y1, y2⟩ := hk y (by simp)
      rw [List.findIdx?_cons, List.findIdx?_cons]
      simp only [Function.comp, fine_turn hr hl y1 y2]
      rw [ih (fun x hx => hk x (by simp [hx]))]
  unfold whyR
  rw [hp, hq, e3]

end Go.Proofs.YtkgblkbgebpejaaGreatDoor
