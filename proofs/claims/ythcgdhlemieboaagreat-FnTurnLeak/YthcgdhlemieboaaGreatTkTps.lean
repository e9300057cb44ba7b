/- bitRows: the iterator's value, over a new box that holds how many variables there are. -/
import Derived.Test.YthcgdhlemieboaaGreatTkTmw
import Derived.Test.YthcgdhlemieboaaGreatTkTmt
import Derived.Test.YthcgdhlemieboaaGreatTkDpr
import Derived.Test.YthcgdhlemieboaaGreatTkRpp
import Derived.Test.YthcgdhlemieboaaGreatTkTsh
import Derived.Test.YthcgdhlemieboaaGreatTkRtx
import Derived.Deep.DeepCutAuto
import Derived.Deep.RegionHeld3
import Derived.Deep.DrawnRows
namespace Go.Proofs.YthcgdhlemieboaaGreat
open Go.RowKit
set_option linter.unusedSimpArgs false
set_option linter.unusedVariables false

set_option maxHeartbeats 4000000 in
theorem bitRows_any (vars : Nat) (w : World) :
    Calls Tryz.prog 49 #[.int .i64 (vars : Int)] w fun e w' => e = .returned (.func (.func 68) #[] #[.pointer (some ⟨w.heap.size, 0, none⟩)]) ∧ Below w.heap.size w w' ∧ w.heap.size < w'.heap.size ∧ w'.cell? ⟨w.heap.size, 0, none⟩ = some (.int .i64 (vars : Int)) := by
  go_enter Tryz.func49, Tryz.ntmps49
  go_wp2
  go_ret
  exact ⟨rfl, (Below.refl _ _).alloc (Nat.le_refl _) _, by simp, by simp⟩

end Go.Proofs.YthcgdhlemieboaaGreat

namespace Go.Proofs.YthcgdhlemieboaaGreat
open Go.RowKit
set_option linter.unusedSimpArgs false
set_option linter.unusedVariables false
attribute [local go_sem] World.cell?_alloc_some

def TpPost (w : World) (ok : Bool) (ls : List (Int × Int)) (d : Nat) (T : Tr d) (e : Ending) (w' : World) : Prop := ∃ lv sv b1 b2, e = .returned (.tuple #[.agg #[lv, sv], .bool ok]) ∧ Below w.heap.size w w' ∧ LOwn w' lv ls b1 ∧ Own w' d sv T b2 ∧ (∀ b ∈ b1 ++ b2, w.heap.size ≤ b ∧ b < w'.heap.size) ∧ b2.Nodup ∧ ∀ b ∈ b1, b ∉ b2
theorem own_noT (w : World) : ∀ d : Nat, Own w d (.slice none 0 0) (noT d) []
  | 0 => ⟨⟨_, _, rfl⟩, rfl⟩
  | d + 1 => .inl ⟨rfl, ⟨_, _, rfl, by unfold maxLen; omega⟩, rfl⟩
theorem TpPost.none {w w' : World} {ls : List (Int × Int)} {d : Nat} {T : Tr d} {ok : Bool} (hok : ok = false) (hl : ls = []) (hT : T = noT d) (hb : Below w.heap.size w w') : TpPost w ok ls d T (.returned (.tuple #[.agg #[.slice none 0 0, .slice none 0 0], .bool false])) w' := by
  subst hok hl hT
  exact ⟨_, _, [], [], rfl, hb, .inl ⟨rfl, ⟨_, _, rfl, by unfold maxLen; omega⟩, rfl⟩, own_noT _ _, by simp, by simp, by simp⟩
def tpOk (zs : List Int) (ls : List (Int × Int)) (d : Nat) (T : Tr d) : Bool := progB ls d T && rowB zs 3
def tpL (zs : List Int) (ls : List (Int × Int)) (d : Nat) (T : Tr d) : List (Int × Int) := if tpOk zs ls d T then turnLs zs ls else []
def tpT (zs : List Int) (ls : List (Int × Int)) (d : Nat) (T : Tr d) : Tr d := if tpOk zs ls d T then mapT (hostF zs) d T else noT d
def tvOk (zs : List Int) (ls : List (Int × Int)) (d : Nat) (T : Tr d) : Bool := progB ls d T && rowB zs ls.length
def tvL (zs : List Int) (ls : List (Int × Int)) (d : Nat) (T : Tr d) : List (Int × Int) := if tvOk zs ls d T then movL zs ls else []
def tvT (zs : List Int) (ls : List (Int × Int)) (d : Nat) (T : Tr d) : Tr d := if tvOk zs ls d T then mapT (varF zs) d T else noT d
theorem progB4 {ls : List (Int × Int)} {d : Nat} {T : Tr d} (h : progB ls d T = true) : ls.length ≤ 4 ∧ labsB ls = true ∧ stB ls.length d 3 T = true ∧ cnt d T ≤ 8 := by
  unfold progB at h
  simp only [Bool.and_eq_true, decide_eq_true_eq] at h
  exact ⟨h.1, h.2.1, h.2.2.1, h.2.2.2⟩
end Go.Proofs.YthcgdhlemieboaaGreat

namespace Go.Proofs.YthcgdhlemieboaaGreat
open Go.RowKit
set_option linter.unusedSimpArgs false
set_option linter.unusedVariables false

theorem back_of {zs : List Int} {n : Nat} (hr : rowB zs n = true) (hn : n ≤ 4) {v : Int} (h0 : 0 ≤ v) (h1 : v < n) : (backL zs).getD (zs.getD v.toNat 0).toNat 0 = v := by
  rw [back_at hr hn v.toNat (by omega)]; omega
theorem row_getD {zs : List Int} {n : Nat} (hr : rowB zs n = true) {v : Int} (h0 : 0 ≤ v) (h1 : v < n) : 0 ≤ zs.getD v.toNat 0 ∧ zs.getD v.toNat 0 < n := by
  have hl := rowB_len hr
  have hi : v.toNat < zs.length := by omega
  have := rowB_in hr v.toNat hi
  rwa [List.getD_eq_getElem?_getD, List.getElem?_eq_getElem hi, Option.getD_some]
theorem turnLs_ok {zs : List Int} (hr : rowB zs 3 = true) {ls : List (Int × Int)} (h : labsB ls = true) : labsB (turnLs zs ls) = true := by
  refine List.all_eq_true.2 fun y hy => ?_
  obtain ⟨x, hx, rfl⟩ := List.mem_map.1 hy
  have := List.all_eq_true.1 h x hx
  unfold okB at this ⊢
  simp only [Bool.and_eq_true, inB_iff] at this ⊢
  exact ⟨turnI_bd hr this.1.1 this.1.2, turnI_bd hr this.2.1 this.2.2⟩
theorem turnLs_back {zs : List Int} (hr : rowB zs 3 = true) {ls : List (Int × Int)} (h : labsB ls = true) : turnLs (backL zs) (turnLs zs ls) = ls := by
  unfold turnLs
  rw [List.map_map]
  refine List.ext_getElem (by simp) fun i h1 h2 => ?_
  obtain ⟨⟨a0, a7⟩, b0, b7⟩ := labs_at h i h2
  simp only [List.getElem_map, Function.comp, turn_back hr a0 a7, turn_back hr b0 b7]
theorem host_pay {zs : List Int} (hr : rowB zs 3 = true) {n : Int} (p : Pay) (z : Bool) (h : payB n p z = true) : payB n (hostF zs p) z = true := by
  unfold hostF
  by_cases hk : p.k = 3
  · rw [if_pos hk]
    obtain ⟨h0, h2⟩ := okP_host ⟨z, h⟩ hk
    obtain ⟨q0, q1⟩ := row_getD hr h0 h2
    unfold payB nonV at h ⊢
    simp [hk, vIn] at h ⊢
    refine ⟨⟨h.1.1, h.1.2⟩, ⟨h.2.1.1, ?_⟩, h.2.2⟩
    simpa using ⟨q0, q1⟩
  · rw [if_neg hk]; exact h
theorem host_back {zs : List Int} (hr : rowB zs 3 = true) {n : Int} {d : Nat} {T : Tr d} (h : allP (okP n) d T) : mapT (hostF (backL zs)) d (mapT (hostF zs) d T) = T := by
  rw [mapT_mapT]
  refine mapT_id (P := okP n) (fun p hp => ?_) d T h
  unfold hostF
  by_cases hk : p.k = 3
  · rw [if_pos hk]
    obtain ⟨h0, h2⟩ := okP_host hp hk
    rw [if_pos (by exact hk)]
    have := back_of hr (by omega) h0 h2
    obtain ⟨pk, pv, pvk, pva, pvb, ph⟩ := p
    dsimp only at this ⊢
    rw [this]
  · rw [if_neg hk, if_neg hk]
theorem turned_back {zs : List Int} {ls : List (Int × Int)} {d : Nat} {T : Tr d} (h : tpOk zs ls d T = true) :
    progB ls d T = true ∧ rowB zs 3 = true ∧ progB (tpL zs ls d T) d (tpT zs ls d T) = true ∧ cnt d (tpT zs ls d T) = cnt d T ∧
    tpOk (backL zs) (tpL zs ls d T) d (tpT zs ls d T) = true ∧ tpL (backL zs) (tpL zs ls d T) d (tpT zs ls d T) = ls ∧ tpT (backL zs) (tpL zs ls d T) d (tpT zs ls d T) = T := by
  have e1 : tpL zs ls d T = turnLs zs ls := by unfold tpL; rw [if_pos h]
  have e2 : tpT zs ls d T = mapT (hostF zs) d T := by unfold tpT; rw [if_pos h]
  rw [e1, e2]
  unfold tpOk at h
  rw [Bool.and_eq_true] at h
  obtain ⟨hp, hr⟩ := h
  obtain ⟨l4, hl, hs, c8⟩ := progB4 hp
  have hq : progB (turnLs zs ls) d (mapT (hostF zs) d T) = true := by
    unfold progB
    rw [turnLs_len, cnt_mapT]
    simp only [Bool.and_eq_true, decide_eq_true_eq]
    exact ⟨l4, turnLs_ok hr hl, stB_mapT (fun p z h => host_pay hr p z h) d 3 T hs, c8⟩
  have hok : tpOk (backL zs) (turnLs zs ls) d (mapT (hostF zs) d T) = true := by unfold tpOk; rw [hq, back_row hr (by omega)]; rfl
  refine ⟨hp, hr, hq, cnt_mapT _ _ _, hok, ?_, ?_⟩
  · unfold tpL; rw [if_pos hok, turnLs_back hr hl]
  · unfold tpT; rw [if_pos hok, host_back hr (allP_of d 3 T hs)]

end Go.Proofs.YthcgdhlemieboaaGreat

namespace Go.Proofs.YthcgdhlemieboaaGreat
open Go.RowKit
set_option linter.unusedSimpArgs false
set_option linter.unusedVariables false
attribute [local go_sem] World.cell?_alloc_some

end Go.Proofs.YthcgdhlemieboaaGreat
