/- Whether a program is fine, the labels of being done, and who trusts what is set: by the program. -/
import Derived.Test.YtkgblkbgebpejaaGreatDoorVtTyo
import Derived.Test.YtkgblkbgebpejaaGreatDoorVtTyx
import Derived.Test.YtkgblkbgebpejaaGreatDoorVtTpc
import Derived.Test.YtkgblkbgebpejaaGreatDoorVtTsh
namespace Go.Proofs.YtkgblkbgebpejaaGreatDoor
open Go.RowKit
set_option linter.unusedSimpArgs false
set_option linter.unusedVariables false
attribute [local go_sem] World.cell?_alloc_some

theorem errR_cases (s0 s1 : Addr) (ls : List (Int × Int)) (d : Nat) (T : Tr d) : (errR s0 s1 ls d T = .nilIface ∧ (progB ls d T && !(whyR ls d T).2) = true) ∨ (∃ u v, errR s0 s1 ls d T = .iface u v ∧ (progB ls d T && !(whyR ls d T).2) = false) := by
  unfold errR whyR
  cases hp : progB ls d T
  · exact .inr ⟨_, _, rfl, by simp⟩
  · cases hb : badI ls (prs ls d T topL) with
    | none => exact .inl ⟨rfl, by simp⟩
    | some i => exact .inr ⟨_, _, rfl, by simp⟩

set_option maxHeartbeats 4000000 in
set_option maxRecDepth 20000 in
theorem typeOk_any {d : Nat} {T : Tr d} {lv sv : Value} {ls : List (Int × Int)} {w : World} {s0 s1 : Addr} (hL : LRep w lv ls) (hR : Rep w d sv T) (hg0 : w.cell? ⟨1, 0, none⟩ = some (.iface 189 (.pointer (some s0)))) (hg1 : w.cell? ⟨0, 0, none⟩ = some (.iface 189 (.pointer (some s1)))) :
    Calls Tryz.prog 10 #[.agg #[lv, sv]] w fun e w' => e = .returned (.bool (progB ls d T && !(whyR ls d T).2)) ∧ Below w.heap.size w w' := by
  have A : Below w.heap.size w (w.alloc (.cells #[lv, sv] 26)) := (Below.refl _ _).alloc (Nat.le_refl _) _
  have C1 : Hid _ := typingOf_any (hL.below A) (hR.below A) (cell_later A hg0) (cell_later A hg1)
  obtain ⟨la, lc, rfl, -⟩ := id hL
  obtain ⟨sa, sc, rfl⟩ := id hR.slice
  have HA : Hid _ := A
  have hec := errR_cases s0 s1 ls d T
  obtain ⟨ok, hok⟩ : ∃ x, (progB ls d T && !(whyR ls d T).2) = x := ⟨_, rfl⟩
  rw [hok] at hec ⊢
  have HEC : Hid _ := hec
  clear hok hec
  clear hL hR hg0 hg1 A
  go_enter Tryz.func10, Tryz.ntmps10
  go_wp2_with fail
  go_at_call 26; refine Calls.mono C1.out ?_; rintro e w1 ⟨va, vn, vc, da, dn, dc, aa, ac, sa, sc, bd, rfl, hb, -, -⟩
  have HB : Hid (Below w.heap.size w (w1.alloc (.cells #[.slice none 0 0] 3))) := (Below.then (show Below w.heap.size w (w.alloc (.cells #[_, _] 26)) from (Below.refl _ _).alloc (Nat.le_refl _) _) hb (by simp)).alloc (by have := hb.size; simp at this; omega) _
  have HB1 : Hid (Below w.heap.size w w1) := (Below.then (show Below w.heap.size w (w.alloc (.cells #[_, _] 26)) from (Below.refl _ _).alloc (Nat.le_refl _) _) hb (by simp))
  have hz1 : w.heap.size ≤ w1.heap.size := HB1.out.size
  have HZ1 : Hid _ := hz1
  clear hb C1 HB hz1 HA
  rcases bd with _ | ib
  · rcases HEC.out with ⟨he, hv⟩ | ⟨u, v, he, hv⟩
    · have HV : Hid _ := hv
      rw [he]
      clear hv HEC he
      try simp only [fval]
      go_wp2_with fail
      have HBF : Hid _ := HB1.out.alloc HZ1.out (.cells #[.slice va vn vc, .slice da dn dc, .slice aa (atR ls d T).length ac, .slice sa (seR ls d T).length sc, .nilIface] 63)
      exact bodyPost_ret (v := .bool true) (by simp [results, Tryz.results10, go_sem]) rfl ⟨by rw [HV.out], HBF.out⟩
    · have HV : Hid _ := hv
      rw [he]
      clear hv HEC he
      try simp only [fval]
      go_wp2_with fail
      have HBF : Hid _ := HB1.out.alloc HZ1.out (.cells #[.slice va vn vc, .slice da dn dc, .slice aa (atR ls d T).length ac, .slice sa (seR ls d T).length sc, .nilIface] 63)
      exact bodyPost_ret (v := .bool false) (by simp [results, Tryz.results10, go_sem]) rfl ⟨by rw [HV.out], HBF.out⟩
  · rcases HEC.out with ⟨he, hv⟩ | ⟨u, v, he, hv⟩
    · have HV : Hid _ := hv
      rw [he]
      clear hv HEC he
      try simp only [fval]
      go_wp2_with fail
      have HBF : Hid _ := HB1.out.alloc HZ1.out (.cells #[.slice va vn vc, .slice da dn dc, .slice aa (atR ls d T).length ac, .slice sa (seR ls d T).length sc, .iface 67 (.agg #[.int .i64 (ib : Int), .iface 189 (.pointer (some s1))])] 63)
      exact bodyPost_ret (v := .bool true) (by simp [results, Tryz.results10, go_sem]) rfl ⟨by rw [HV.out], HBF.out⟩
    · have HV : Hid _ := hv
      rw [he]
      clear hv HEC he
      try simp only [fval]
      go_wp2_with fail
      have HBF : Hid _ := HB1.out.alloc HZ1.out (.cells #[.slice va vn vc, .slice da dn dc, .slice aa (atR ls d T).length ac, .slice sa (seR ls d T).length sc, .iface 67 (.agg #[.int .i64 (ib : Int), .iface 189 (.pointer (some s1))])] 63)
      exact bodyPost_ret (v := .bool false) (by simp [results, Tryz.results10, go_sem]) rfl ⟨by rw [HV.out], HBF.out⟩

/-- A new row of labels, or of numbers, is answered. -/
def LaPost (w : World) (xs : List (Int × Int)) (e : Ending) (w' : World) : Prop := ∃ v, e = .returned v ∧ Below w.heap.size w w' ∧ w'.ownsRow w.heap.size 58 2 v xs.length (pcells xs)
def NaPost (w : World) (xs : List Int) (e : Ending) (w' : World) : Prop := ∃ v, e = .returned v ∧ Below w.heap.size w w' ∧ w'.ownsRow w.heap.size 3 1 v xs.length (xs.map (Value.int .i64))

end Go.Proofs.YtkgblkbgebpejaaGreatDoor

namespace Go.Proofs.YtkgblkbgebpejaaGreatDoor
open Go.RowKit
set_option linter.unusedSimpArgs false
set_option linter.unusedVariables false

/-- Turned back a name is as it was. -/
theorem back_of {zs : List Int} {n : Nat} (hr : rowB zs n = true) (hn : n ≤ 4) {v : Int} (h0 : 0 ≤ v) (h1 : v < n) : (backL zs).getD (zs.getD v.toNat 0).toNat 0 = v := by
  rw [back_at hr hn v.toNat (by omega)]; omega
theorem row_getD {zs : List Int} {n : Nat} (hr : rowB zs n = true) {v : Int} (h0 : 0 ≤ v) (h1 : v < n) : 0 ≤ zs.getD v.toNat 0 ∧ zs.getD v.toNat 0 < n := by
  have hl := rowB_len hr
  have hi : v.toNat < zs.length := by omega
  have := rowB_in hr v.toNat hi
  rwa [List.getD_eq_getElem?_getD, List.getElem?_eq_getElem hi, Option.getD_some]
theorem turnLs_ok {zs : List Int} (hr : rowB zs 3 = true) {ls : List (Int × Int)} (h : labsB ls = true) : labsB (turnLs zs ls) = true := by
  refine List.all_eq_true.2 fun y hy => ?_
  obtain ⟨x, hx, rfl⟩ := List.mem_map.1 hy
  have := List.all_eq_true.1 h x hx
  unfold okB at this ⊢
  simp only [Bool.and_eq_true, inB_iff] at this ⊢
  exact ⟨turnI_bd hr this.1.1 this.1.2, turnI_bd hr this.2.1 this.2.2⟩
theorem turnLs_back {zs : List Int} (hr : rowB zs 3 = true) {ls : List (Int × Int)} (h : labsB ls = true) : turnLs (backL zs) (turnLs zs ls) = ls := by
  unfold turnLs
  rw [List.map_map]
  refine List.ext_getElem (by simp) fun i h1 h2 => ?_
  obtain ⟨⟨a0, a7⟩, b0, b7⟩ := labs_at h i h2
  simp only [List.getElem_map, Function.comp, turn_back hr a0 a7, turn_back hr b0 b7]
theorem host_pay {zs : List Int} (hr : rowB zs 3 = true) {n : Int} (p : Pay) (z : Bool) (h : payB n p z = true) : payB n (hostF zs p) z = true := by
  unfold hostF
  by_cases hk : p.k = 3
  · rw [if_pos hk]
    obtain ⟨h0, h2⟩ := okP_host ⟨z, h⟩ hk
    obtain ⟨q0, q1⟩ := row_getD hr h0 h2
    unfold payB nonV at h ⊢
    simp [hk, vIn] at h ⊢
    refine ⟨⟨h.1.1, h.1.2⟩, ⟨h.2.1.1, ?_⟩, h.2.2⟩
    simpa using ⟨q0, q1⟩
  · rw [if_neg hk]; exact h
theorem host_back {zs : List Int} (hr : rowB zs 3 = true) {n : Int} {d : Nat} {T : Tr d} (h : allP (okP n) d T) : mapT (hostF (backL zs)) d (mapT (hostF zs) d T) = T := by
  rw [mapT_mapT]
  refine mapT_id (P := okP n) (fun p hp => ?_) d T h
  unfold hostF
  by_cases hk : p.k = 3
  · rw [if_pos hk]
    obtain ⟨h0, h2⟩ := okP_host hp hk
    rw [if_pos (by exact hk)]
    have := back_of hr (by omega) h0 h2
    obtain ⟨pk, pv, pvk, pva, pvb, ph⟩ := p
    dsimp only at this ⊢
    rw [this]
  · rw [if_neg hk, if_neg hk]
/-- A program that is turned is one, as big as it was; turned back it is as it was. -/
theorem turned_back {zs : List Int} {ls : List (Int × Int)} {d : Nat} {T : Tr d} (h : tpOk zs ls d T = true) :
    progB ls d T = true ∧ rowB zs 3 = true ∧ progB (tpL zs ls d T) d (tpT zs ls d T) = true ∧ cnt d (tpT zs ls d T) = cnt d T ∧
    tpOk (backL zs) (tpL zs ls d T) d (tpT zs ls d T) = true ∧ tpL (backL zs) (tpL zs ls d T) d (tpT zs ls d T) = ls ∧ tpT (backL zs) (tpL zs ls d T) d (tpT zs ls d T) = T := by
  have e1 : tpL zs ls d T = turnLs zs ls := by unfold tpL; rw [if_pos h]
  have e2 : tpT zs ls d T = mapT (hostF zs) d T := by unfold tpT; rw [if_pos h]
  rw [e1, e2]
  unfold tpOk at h
  rw [Bool.and_eq_true] at h
  obtain ⟨hp, hr⟩ := h
  obtain ⟨l4, hl, hs, c8⟩ := progB4 hp
  have hq : progB (turnLs zs ls) d (mapT (hostF zs) d T) = true := by
    unfold progB
    rw [turnLs_len, cnt_mapT]
    simp only [Bool.and_eq_true, decide_eq_true_eq]
    exact ⟨l4, turnLs_ok hr hl, stB_mapT (fun p z h => host_pay hr p z h) d 3 T hs, c8⟩
  have hok : tpOk (backL zs) (turnLs zs ls) d (mapT (hostF zs) d T) = true := by unfold tpOk; rw [hq, back_row hr (by omega)]; rfl
  refine ⟨hp, hr, hq, cnt_mapT _ _ _, hok, ?_, ?_⟩
  · unfold tpL; rw [if_pos hok, turnLs_back hr hl]
  · unfold tpT; rw [if_pos hok, host_back hr (allP_of d 3 T hs)]

end Go.Proofs.YtkgblkbgebpejaaGreatDoor
