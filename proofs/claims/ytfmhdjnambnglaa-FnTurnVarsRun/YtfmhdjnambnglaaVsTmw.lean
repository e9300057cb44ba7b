/- Labels, each moved to the place of its new name. -/
import Derived.Test.YtfmhdjnambnglaaVsTle
namespace Go.Proofs.Ytfmhdjnambnglaa
open Go.RowKit
set_option linter.unusedSimpArgs false
set_option linter.unusedVariables false
attribute [local go_sem] World.cell?_alloc_some

def movTo (zs : List Int) (ls : List (Int × Int)) (k : Nat) : List (Int × Int) := (List.range k).foldl (fun o i => o.set (zs.getD i 0).toNat (ls.getD i (0, 0))) (List.replicate ls.length (0, 0))
def movL (zs : List Int) (ls : List (Int × Int)) : List (Int × Int) := movTo zs ls ls.length
theorem movTo_succ (zs : List Int) (ls : List (Int × Int)) (k : Nat) : movTo zs ls (k + 1) = (movTo zs ls k).set (zs.getD k 0).toNat (ls.getD k (0, 0)) := by simp [movTo, List.range_succ]
theorem movTo_len (zs : List Int) (ls : List (Int × Int)) : ∀ k, (movTo zs ls k).length = ls.length
  | 0 => by simp [movTo]
  | k + 1 => by rw [movTo_succ, List.length_set, movTo_len zs ls k]
theorem movL_len (zs : List Int) (ls : List (Int × Int)) : (movL zs ls).length = ls.length := movTo_len _ _ _
theorem movTo_at {zs : List Int} {ls : List (Int × Int)} (hr : rowB zs ls.length = true) : ∀ k, k ≤ ls.length → ∀ i, i < k → (movTo zs ls k)[(zs.getD i 0).toNat]? = ls[i]?
  | 0, _, i, hi => by omega
  | k + 1, hk, i, hi => by
    have hl := rowB_len hr
    have hz : ∀ j (hj : j < zs.length), zs.getD j 0 = zs[j] := fun j hj => by simp [List.getD_eq_getElem?_getD, List.getElem?_eq_getElem hj]
    rw [movTo_succ]
    by_cases he : i = k
    · subst he
      have hb := rowB_in hr i (by omega)
      rw [hz i (by omega)]
      rw [List.getElem?_set_self (by rw [movTo_len]; omega)]
      simp [List.getD_eq_getElem?_getD, List.getElem?_eq_getElem (show i < ls.length by omega)]
    · have ih := movTo_at hr k (by omega) i (by omega)
      rw [List.getElem?_set_ne ?_]
      · exact ih
      · intro hc
        have b1 := rowB_in hr i (by omega)
        have b2 := rowB_in hr k (by omega)
        rw [hz k (by omega), hz i (by omega)] at hc
        have : zs[k] = zs[i] := by omega
        exact List.pairwise_iff_getElem.1 (rowB_iff.1 hr).2.2 i k (by omega) (by omega) (by omega) this.symm
theorem movL_at {zs : List Int} {ls : List (Int × Int)} (hr : rowB zs ls.length = true) (i : Nat) (hi : i < ls.length) : (movL zs ls)[(zs.getD i 0).toNat]? = ls[i]? := movTo_at hr _ (Nat.le_refl _) i hi

set_option maxHeartbeats 4000000 in
set_option maxRecDepth 20000 in
theorem movedTo_any {lv : Value} {ls : List (Int × Int)} {zs : List Int} {ra : Option Addr} {rc : Nat} {w : World} (hL : LRep w lv ls) (hlen : ls.length ≤ 1048576) (hr : rowB zs ls.length = true) (hN : GRep (Value.int .i64) w (.slice ra zs.length rc) zs) :
    Calls Try.prog 76 #[lv, .slice ra zs.length rc] w fun e w' => ∃ v' bs, e = .returned v' ∧ Below w.heap.size w w' ∧ LOwn w' v' (movL zs ls) bs ∧ (∀ b ∈ bs, w.heap.size ≤ b ∧ b < w'.heap.size) := by
  obtain ⟨i0, hi0, hz0, hz1, hz2⟩ := info_parts infoLabel
  obtain ⟨la, lc, rfl, hlc, hcm, hcell⟩ := hL
  by_cases hzero : ls.length = 0
  · have : ls = [] := List.eq_nil_of_length_eq_zero hzero
    subst this
    clear hN
    go_enter Try.func76, Try.ntmps76
    go_wp2
    go_ret
    exact ⟨_, [], rfl, Below.refl _ _, .inl ⟨rfl, ⟨_, _, rfl, by unfold maxLen; omega⟩, rfl⟩, by simp⟩
  have hne0 : ¬ (ls.length : Int) = 0 := by omega
  have hzl := rowB_len hr
  obtain ⟨_, _, he, _, _, hrow⟩ := hN
  obtain ⟨rb, ro, hra, hr0⟩ := hrow 0 (by omega)
  cases he
  subst hra
  have HC : Hid (∀ i (hi : i < ls.length), ∃ b off k t, ls.getD i (0, 0) = (k, t) ∧ la = some ⟨b, off, none⟩ ∧ w.cell? ⟨b, off + i * 2, none⟩ = some (.int .i64 k) ∧ w.cell? ⟨b, off + i * 2 + 1, none⟩ = some (.int .i64 t)) := (show ∀ i (hi : i < ls.length), _ by
    intro i hi
    obtain ⟨b, off, ha, h0, h1⟩ := hcell i hi
    exact ⟨b, off, ls[i].1, ls[i].2, by simp [List.getD_eq_getElem?_getD, List.getElem?_eq_getElem hi], ha, h0, h1⟩)
  have RC : Hid (∀ i, i < ls.length → ∃ m : Nat, m < ls.length ∧ (zs.getD i 0).toNat = m ∧ ∀ wx, Below w.heap.size w wx → wx.cell? ⟨rb, ro + i, none⟩ = some (.int .i64 (m : Int))) := (show ∀ i, i < ls.length → _ from fun i hi => by
    have hi' : i < zs.length := by omega
    obtain ⟨b, off, he, hc⟩ := hrow i hi'
    cases he
    have hb := rowB_in hr i hi'
    have hg : zs.getD i 0 = zs[i] := by simp [List.getD_eq_getElem?_getD, List.getElem?_eq_getElem hi']
    refine ⟨zs[i].toNat, by omega, by rw [hg], fun wx hb' => ?_⟩
    rw [Int.toNat_of_nonneg hb.1]
    exact cell_later hb' hc)
  have HM : Hid (∀ k, movTo zs ls (k + 1) = (movTo zs ls k).set (zs.getD k 0).toNat (ls.getD k (0, 0))) := (show ∀ k, _ from movTo_succ zs ls)
  have HLN : Hid (∀ k, (movTo zs ls k).length = ls.length) := (show ∀ k, _ from movTo_len zs ls)
  rw [hzl]
  clear hcell hr hrow hr0 hzl
  go_enter Try.func76, Try.ntmps76
  go_wp2_with (at_make; refine wpList_make_full _ rfl _ _ 40 rfl w.heap.size 32 i0 _ 2 Try.underlying40 hi0 hz0 hz1 _ _ _ _ ls.length rfl rfl rfl rfl ?b2 ?b3 ?b4 ?_)
  case b2 => rw [hz2]; omega
  case b3 => unfold maxLen; omega
  case b4 => exact Nat.le_refl _
  intro w0 own0 grow0
  have t0 := row_there own0
  have B0 : Below w.heap.size w w0 := (Below.refl _ _).grown grow0 (Nat.le_refl _) (fun k hk => by cases hk)
  have s0 : w.heap.size < w0.heap.size := (own0.lt w.heap.size rfl).2
  have z0 : ∀ q, q < ls.length → w0.cell? ⟨w.heap.size, q * 2, none⟩ = some (.int .i64 ((movTo zs ls 0).getD q (0, 0)).1) ∧ w0.cell? ⟨w.heap.size, q * 2 + 1, none⟩ = some (.int .i64 ((movTo zs ls 0).getD q (0, 0)).2) := fun q hq => by
    have e : (movTo zs ls 0).getD q (0, 0) = (0, 0) := by simp [movTo, List.getD_eq_getElem?_getD, List.getElem?_replicate, hq]
    rw [e]
    refine ⟨?_, ?_⟩
    · rw [World.ownsRow.cellAt own0 _ (by omega)]
      simp [madeCells, show q * 2 < ls.length * 2 by omega, Value.cells]
    · rw [World.ownsRow.cellAt own0 _ (by omega)]
      simp [madeCells, show q * 2 + 1 < ls.length * 2 by omega, Value.cells, Nat.add_mod]
  clear own0 grow0
  go_wp2_with fail
  go_loopw [16] (fun j wr => ∃ (i : Nat), i ≤ ls.length ∧ j = .int .i64 i ∧ Below w.heap.size w wr ∧ w.heap.size < wr.heap.size ∧ wr.there w.heap.size 0 (ls.length * 2) ∧
      ∀ q, q < ls.length → wr.cell? ⟨w.heap.size, q * 2, none⟩ = some (.int .i64 ((movTo zs ls i).getD q (0, 0)).1) ∧ wr.cell? ⟨w.heap.size, q * 2 + 1, none⟩ = some (.int .i64 ((movTo zs ls i).getD q (0, 0)).2)) (fun j _ => ls.length - (intOf j).toNat)
  case atStart => exact ⟨0, by omega, rfl, B0, s0, t0, z0⟩
  case round =>
    obtain ⟨i, hi, rfl, hbr, hgs, hth, hown⟩ := hrel
    have hsz : w.heap.size ≤ wr.heap.size := hbr.size
    by_cases hlt : i < ls.length
    · obtain ⟨b, off, k, t, hx, rfl, k0, k1⟩ := HC.out i hlt
      replace k0 := cell_later hbr k0
      replace k1 := cell_later hbr k1
      obtain ⟨m, hm, hzm, hrc⟩ := RC.out i hlt
      have i0' : (0 : Int) ≤ (i : Int) := by omega
      have i1' : (i : Int) < (ls.length : Int) := by omega
      have m0' : (0 : Int) ≤ (m : Int) := by omega
      have m1' : (m : Int) < (ls.length : Int) := by omega
      obtain ⟨g0, g1⟩ := hown m hm
      have f0 : wr.frozen? ⟨w.heap.size, m * 2, none⟩ = false := by have := (hth (m * 2) (by omega)).2; rwa [Nat.zero_add] at this
      have f1 : wr.frozen? ⟨w.heap.size, m * 2 + 1, none⟩ = false := by have := (hth (m * 2 + 1) (by omega)).2; rwa [Nat.zero_add] at this
      have HTH : Hid _ := hth
      have HOW : Hid _ := hown
      have HBR : Hid (Below w.heap.size w wr) := hbr
      have A1 : Below wr.heap.size wr (wr.alloc (.cells #[.int .i64 k, .int .i64 t] 32)) := (Below.refl _ _).alloc (Nat.le_refl _) _
      have p0 : (wr.alloc (.cells #[.int .i64 k, .int .i64 t] 32)).cell? ⟨wr.heap.size, 0, none⟩ = some (.int .i64 k) := by go_simp
      have p1 : (wr.alloc (.cells #[.int .i64 k, .int .i64 t] 32)).cell? ⟨wr.heap.size, 1, none⟩ = some (.int .i64 t) := by go_simp
      have HR : Hid (∀ wx, Below w.heap.size w wx → wx.cell? ⟨rb, ro + i, none⟩ = some (.int .i64 (m : Int))) := hrc
      obtain ⟨W, hW⟩ : ∃ W, wr.alloc (.cells #[.int .i64 k, .int .i64 t] 32) = W := ⟨_, rfl⟩
      rw [hW] at A1 p0 p1
      have HW : Hid _ := hW
      replace g0 := cell_later A1 g0
      replace g1 := cell_later A1 g1
      replace f0 : W.frozen? ⟨w.heap.size, m * 2, none⟩ = false := (A1.frozen (p := ⟨w.heap.size, m * 2, none⟩) hgs).trans f0
      replace f1 : W.frozen? ⟨w.heap.size, m * 2 + 1, none⟩ = false := (A1.frozen (p := ⟨w.heap.size, m * 2 + 1, none⟩) hgs).trans f1
      have HA1 : Hid (Below wr.heap.size wr W) := A1
      have HP : Hid (W.cell? ⟨wr.heap.size, 0, none⟩ = some (.int .i64 k) ∧ W.cell? ⟨wr.heap.size, 1, none⟩ = some (.int .i64 t)) := ⟨p0, p1⟩
      have hb1 : Below w.heap.size w W := Below.then hbr A1 hsz
      have HB1 : Hid (Below w.heap.size w W) := hb1
      clear hth hown hbr A1 hW hrc p0 p1
      go_wp2_with fail
      rw [HW.out]
      clear k0 k1 HW
      refine wp_region_held (S := (fun wz => Below w.heap.size w wz)) (by kernel_rfl) ?_
      change wpAnyH _ _ _ _ _ _ _ _ (World.drew _)
      have hHeld := hb1.drew
      refine' wpAnyH_take (i := 0) (v := _) rfl (by kernel_rfl) (by kernel_rfl) (by kernel_rfl) (fun _ _ _ h => h) (Or.inl ⟨by rfl, ?hy1201⟩) hHeld ?hn1201
      case hy1201 => (intro wz hSw; go_simp; first | done | with_reducible rfl)
      try simp only [nrm, Act.put]
      refine' wpAnyH_take (i := 1) (v := _) rfl (by kernel_rfl) (by kernel_rfl) (by kernel_rfl) (fun _ _ _ h => h) (Or.inl ⟨by rfl, ?hy1202⟩) hHeld ?hn1202
      case hy1202 => (intro wz hSw; go_simp; first | done | with_reducible rfl)
      try simp only [nrm, Act.put]
      refine' wpAnyH_take (i := 2) (v := _) rfl (by kernel_rfl) (by kernel_rfl) (by kernel_rfl) (fun _ _ _ h => h) (Or.inl ⟨by rfl, ?hy1203⟩) hHeld ?hn1203
      case hy1203 => (intro wz hSw; go_simp; first | done | with_reducible rfl)
      try simp only [nrm, Act.put]
      refine' wpAnyH_take (i := 3) (v := _) rfl (by kernel_rfl) (by kernel_rfl) (by kernel_rfl) (fun _ _ _ h => h) (Or.inl ⟨by rfl, ?hy1204⟩) hHeld ?hn1204
      case hy1204 => (intro wz hSw; go_simp; first | done | with_reducible rfl)
      try simp only [nrm, Act.put]
      refine' wpAnyH_take (i := 4) (v := .int .i64 (m : Int)) rfl (by kernel_rfl) (by kernel_rfl) (by kernel_rfl) (fun _ _ _ h => h) (Or.inl ⟨by rfl, ?hy1205⟩) hHeld ?hn1205
      case hy1205 => (intro wz hSw; have j0 := HR.out _ hSw; go_simp)
      try simp only [nrm, Act.put]
      refine wpAnyH_ready (rs := [5]) (by kernel_rfl) (by simp) ?_
      refine AllReadyH.cons rfl (fun K hK => ?_) AllReadyH.nil
      obtain ⟨q0, q1⟩ := HP.out
      go_simp
      clear q0 q1
      refine hK.out _ _ (hHeld) (fun hHeld => ?_)
      clear hK K
      refine' wpAnyH_take (i := 6) (v := _) rfl (by kernel_rfl) (by kernel_rfl) (by kernel_rfl) (fun _ _ _ h => h) (Or.inl ⟨by rfl, ?hy1206⟩) hHeld ?hn1206
      case hy1206 => (intro wz hSw; go_simp; first | done | with_reducible rfl)
      try simp only [nrm, Act.put]
      refine wpAnyH_ready (rs := [7]) (by kernel_rfl) (by simp) ?_
      refine AllReadyH.cons rfl (fun K hK => ?_) AllReadyH.nil
      have hh3 : Below w.heap.size w (World.setCell (World.setCell (World.drew W) ⟨w.heap.size, m * 2, none⟩ (.int .i64 k)) ⟨w.heap.size, m * 2 + 1, none⟩ (.int .i64 t)) := Below.setCell (p := ⟨w.heap.size, m * 2 + 1, none⟩) (Below.setCell (p := ⟨w.heap.size, m * 2, none⟩) hHeld (Nat.le_refl _) _) (Nat.le_refl _) _
      go_simp
      refine hK.out _ _ (hh3) (fun hHeld => ?_)
      clear hK K
      refine wpAnyH_done (by kernel_rfl) ?_ _
      have HB3 : Hid _ := hHeld
      clear hHeld
      go_wp2
      refine ⟨⟨i + 1, by omega, by simp, HB3.out, by have := HA1.out.size; simp [World.setCell]; omega, ?_, ?_⟩, by simp [intOf]; omega⟩
      · exact World.there_setCells (w := W) (there_same (HA1.out.block _ hgs) HTH.out) w.heap.size (m * 2) [.int .i64 k, .int .i64 t]
      · intro q hq
        obtain ⟨h1, h2⟩ := HOW.out q hq
        replace h1 := cell_later HA1.out h1
        replace h2 := cell_later HA1.out h2
        rw [HM.out, hzm, hx]
        by_cases hqm : q = m
        · subst hqm
          have e : ((movTo zs ls i).set q (k, t)).getD q (0, 0) = (k, t) := by
            rw [List.getD_eq_getElem?_getD, List.getElem?_set_self (by rw [HLN.out]; exact hq)]; rfl
          rw [e]
          refine ⟨?_, ?_⟩
          · show ((W.setCell ⟨w.heap.size, q * 2, none⟩ (.int .i64 k)).setCell ⟨w.heap.size, q * 2 + 1, none⟩ (.int .i64 t)).cell? _ = _
            rw [World.cell?_setCell_other _ _ _ _ (by simp)]
            exact World.cell?_setCell_same _ _ _ h1
          · show ((W.setCell ⟨w.heap.size, q * 2, none⟩ (.int .i64 k)).setCell ⟨w.heap.size, q * 2 + 1, none⟩ (.int .i64 t)).cell? _ = _
            exact World.cell?_setCell_same _ _ _ ((World.cell?_setCell_other _ _ _ _ (by simp)).trans h2)
        · have e : ((movTo zs ls i).set m (k, t)).getD q (0, 0) = (movTo zs ls i).getD q (0, 0) := by
            rw [List.getD_eq_getElem?_getD, List.getElem?_set_ne (fun h => hqm h.symm), ← List.getD_eq_getElem?_getD]
          rw [e]
          refine ⟨?_, ?_⟩
          · show ((W.setCell ⟨w.heap.size, m * 2, none⟩ (.int .i64 k)).setCell ⟨w.heap.size, m * 2 + 1, none⟩ (.int .i64 t)).cell? _ = _
            rw [World.cell?_setCell_other _ _ _ _ (by simp <;> omega), World.cell?_setCell_other _ _ _ _ (by simp <;> omega)]; exact h1
          · show ((W.setCell ⟨w.heap.size, m * 2, none⟩ (.int .i64 k)).setCell ⟨w.heap.size, m * 2 + 1, none⟩ (.int .i64 t)).cell? _ = _
            rw [World.cell?_setCell_other _ _ _ _ (by simp <;> omega), World.cell?_setCell_other _ _ _ _ (by simp <;> omega)]; exact h2
    · have hie : i = ls.length := by omega
      subst hie
      have HTH : Hid _ := hth
      have HOW : Hid _ := hown
      have HBR : Hid (Below w.heap.size w wr) := hbr
      clear hth hown hbr
      go_wp2
      go_ret
      refine ⟨_, [w.heap.size], rfl, HBR.out, .inr ⟨by rw [movL_len]; omega, w.heap.size, ls.length, by rw [movL_len]; rfl, by rw [movL_len]; exact Nat.le_refl _, by unfold maxLen; omega, by rw [movL_len]; exact HTH.out, rfl, fun q hq => ?_⟩, ?_⟩
      · have hq' : q < ls.length := by rwa [movL_len] at hq
        have hg : (movTo zs ls ls.length).getD q (0, 0) = (movL zs ls)[q] := by
          rw [List.getD_eq_getElem?_getD]; unfold movL; rw [List.getElem?_eq_getElem (by rw [movTo_len]; exact hq'), Option.getD_some]; rfl
        obtain ⟨h1, h2⟩ := HOW.out q hq'
        rw [hg] at h1 h2
        intro j v hv
        match j, hv with
        | 0, hv => cases hv; exact h1
        | 1, hv => cases hv; exact h2
        | (j + 2), hv => simp at hv
      · intro b hb
        obtain rfl : b = w.heap.size := by simpa using hb
        exact ⟨Nat.le_refl _, hgs⟩

end Go.Proofs.Ytfmhdjnambnglaa
