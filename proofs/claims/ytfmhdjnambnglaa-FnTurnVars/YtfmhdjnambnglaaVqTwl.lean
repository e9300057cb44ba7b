/- Rows as the laws look at them; labels that are turned; sets and rows that are drawn. -/
import Derived.Test.YtfmhdjnambnglaaVqTdr
import Derived.Test.YtfmhdjnambnglaaVqOdd
import Derived.Deep.RegionHeld3
import Derived.Deep.DrawnRows
namespace Go.Proofs.Ytfmhdjnambnglaa
open Go.RowKit
set_option linter.unusedSimpArgs false
set_option linter.unusedVariables false
attribute [local go_sem] World.cell?_alloc_some

theorem madeCells1 (z : Value) (n q : Nat) (h : q < n) : (madeCells #[z] n).toList[q]? = some z := by simp [madeCells, h, Nat.mod_one]

set_option maxHeartbeats 4000000 in
theorem lcBack_any {v : Value} {zs : List Int} {w : World} (hr : rowB zs zs.length = true) (h1 : 1 ≤ zs.length) (hn : zs.length ≤ 1048576) (hL : GRep (Value.int .i64) w v zs) :
    Calls Try.prog 18 #[v] w fun e w' => ∃ g c, e = .returned (.slice (some ⟨g, 0, none⟩) zs.length c) ∧ Below w.heap.size w w' ∧ w.heap.size ≤ g ∧ GRep (Value.int .i64) w' (.slice (some ⟨g, 0, none⟩) zs.length c) (backL zs) := by
  obtain ⟨i0, hi0, hz0, hz1, hz2⟩ := info_parts infoInt
  obtain ⟨la, lc, rfl, hlc, hcm, hcell⟩ := hL
  have hlm : (zs.length : Int) ≤ 9223372036854775807 := by unfold maxLen at hcm; omega
  have HC : Hid _ := hcell
  have HR : Hid _ := hr
  clear hcell hr
  go_enter Try.func18, Try.ntmps18
  go_wp2_with (at_make; refine wpList_make_full _ rfl _ _ 23 rfl w.heap.size 3 i0 _ 1 Try.underlying23 hi0 hz0 hz1 _ _ _ _ zs.length rfl rfl rfl rfl ?b2 ?b3 ?b4 ?_)
  case b2 => rw [hz2]; omega
  case b3 => unfold maxLen; omega
  case b4 => exact Nat.le_refl _
  intro w0 own0 grow0
  have B0 : Below w.heap.size w w0 := (Below.refl _ _).grown grow0 (Nat.le_refl _) (fun k hk => by cases hk)
  have CE : ∀ q, q < zs.length → w0.cell? ⟨w.heap.size, q, none⟩ = some (.int .i64 ((backTo zs 0).getD q 0)) ∧ w0.frozen? ⟨w.heap.size, q, none⟩ = false := fun q hq => ⟨by
    rw [World.ownsRow.cellAt own0 q (by omega)]; simpa [backTo, List.getD_eq_getElem?_getD, hq] using madeCells1 (.int .i64 0) zs.length q hq, World.ownsRow.frozenAt own0 q⟩
  clear own0 grow0
  go_wp2_with fail
  go_loopw [4] (fun j wr => ∃ (i : Nat), i ≤ zs.length ∧ j = .int .i64 i ∧ Below w.heap.size w wr ∧ ∀ q, q < zs.length → wr.cell? ⟨w.heap.size, q, none⟩ = some (.int .i64 ((backTo zs i).getD q 0)) ∧ wr.frozen? ⟨w.heap.size, q, none⟩ = false) (fun j _ => zs.length - (intOf j).toNat)
  case atStart => exact ⟨0, by omega, rfl, B0, CE⟩
  case round =>
    obtain ⟨i, hi, rfl, hbr, hce⟩ := hrel
    by_cases hlt : i < zs.length
    · obtain ⟨b, off, rfl, h0⟩ := HC.out i hlt
      replace h0 := cell_later hbr h0
      have i0' : (0 : Int) ≤ (i : Int) := by omega
      have i1' : (i : Int) < (zs.length : Int) := by omega
      obtain ⟨y0, y1⟩ := rowB_in HR.out i hlt
      have HT : Hid _ := backTo_succ zs i
      have hg : zs.getD i 0 = zs[i] := by simp [List.getD_eq_getElem?_getD, List.getElem?_eq_getElem hlt]
      rw [hg] at HT
      have HB : Hid (Below w.heap.size w wr) := hbr
      have HCE : Hid _ := hce
      have HLN : Hid _ := backTo_len zs i
      clear hbr hce hg
      generalize zs[i] = y at *
      obtain ⟨m, rfl⟩ := Int.eq_ofNat_of_zero_le y0
      have hm : m < zs.length := by omega
      obtain ⟨c0, f0⟩ := HCE.out m hm
      go_wp2
      refine ⟨⟨i + 1, by omega, by simp, HB.out.setCell (Nat.le_refl _) _, fun q hq => ?_⟩, by simp [intOf]; omega⟩
      obtain ⟨c1, f1⟩ := HCE.out q hq
      refine ⟨?_, by rw [World.frozen?_setCell]; exact f1⟩
      rw [HT.out]
      by_cases hqm : q = m
      · subst hqm
        rw [World.cell?_setCell_same _ _ _ c0]
        have hl : q < (backTo zs i).length := by rw [HLN.out]; exact hq
        simp [List.getD_eq_getElem?_getD, hl]
      · rw [World.cell?_setCell_other _ _ _ _ (by simp [hqm]), c1]
        have hne : ¬ m = q := by omega
        simp [List.getD_eq_getElem?_getD, List.getElem?_set, hne]
    · have : i = zs.length := by omega
      subst this
      have HB : Hid (Below w.heap.size w wr) := hbr
      have HCE : Hid _ := hce
      clear hbr hce
      go_wp2
      go_ret
      refine ⟨w.heap.size, zs.length, rfl, HB.out, Nat.le_refl _, ⟨_, _, by unfold backL; rw [backTo_len], by unfold backL; rw [backTo_len]; exact Nat.le_refl _, by unfold maxLen; omega, fun q hq => ⟨w.heap.size, 0, rfl, ?_⟩⟩⟩
      have hq' : q < zs.length := by unfold backL at hq; rwa [backTo_len] at hq
      rw [Nat.zero_add]
      have := (HCE.out q hq').1
      rw [this, List.getD_eq_getElem?_getD, List.getElem?_eq_getElem (by rw [backTo_len]; exact hq'), Option.getD_some]
      rfl

/-- A label in its box, a row, and the box of an answer. -/
def STn (w : World) (k t : Int) (v : Value) (zs : List Int) (wz : World) : Prop := wz.cell? ⟨w.heap.size, 0, none⟩ = some (.int .i64 k) ∧ wz.cell? ⟨w.heap.size, 1, none⟩ = some (.int .i64 t) ∧ GRep (Value.int .i64) wz v zs ∧ Below w.heap.size w wz ∧ ∃ x y, Pair wz (w.heap.size + 1) x y
theorem STn.below {w : World} {k t : Int} {v : Value} {zs : List Int} {wz wy : World} (h : STn w k t v zs wz) (hb : Below wz.heap.size wz wy) : STn w k t v zs wy := by
  obtain ⟨h0, h1, h2, h3, x, y, h4⟩ := h
  exact ⟨cell_later hb h0, cell_later hb h1, h2.below hb, Below.then h3 hb h3.size, x, y, h4.below hb⟩
theorem STn.set {w : World} {k t : Int} {v : Value} {zs : List Int} {wz : World} (h : STn w k t v zs wz) (hv : ∀ a n c, v = .slice (some a) n c → a.block < w.heap.size) (u u' : Value) : STn w k t v zs ((wz.setCell ⟨w.heap.size + 1, 0, none⟩ u).setCell ⟨w.heap.size + 1, 1, none⟩ u') := by
  obtain ⟨h0, h1, h2, h3, x, y, h4⟩ := h
  have hne : ∀ b, b ≠ w.heap.size + 1 → ((wz.setCell ⟨w.heap.size + 1, 0, none⟩ u).setCell ⟨w.heap.size + 1, 1, none⟩ u').heap[b]? = wz.heap[b]? := fun b hb => (Below.heap_setCell _ _ _ _ hb).trans (Below.heap_setCell _ _ _ _ hb)
  refine ⟨(World.cell?_of_block (hne _ (by simp))).trans h0, (World.cell?_of_block (hne _ (by simp))).trans h1, ?_, (h3.setCell (by show w.heap.size ≤ w.heap.size + 1; omega) _).setCell (by show w.heap.size ≤ w.heap.size + 1; omega) _, u, u', set_two0 h4.1 h4.2.1, set_two1 h4.1 h4.2.1, by simpa only [World.frozen?_setCell] using h4.2.2.1, by simpa only [World.frozen?_setCell] using h4.2.2.2⟩
  obtain ⟨a, c, rfl, hl, hc, hcell⟩ := h2
  refine ⟨a, c, rfl, hl, hc, fun i hi => ?_⟩
  obtain ⟨b, off, rfl, hx⟩ := hcell i hi
  have := hv _ _ _ rfl
  exact ⟨b, off, rfl, (World.cell?_of_block (hne b (by show b ≠ _; have : b < w.heap.size := this; omega))).trans hx⟩
theorem STn.cells {w : World} {k t : Int} {v : Value} {zs : List Int} {wz : World} (h : STn w k t v zs wz) : ∃ x y, wz.cell? ⟨w.heap.size + 1, 0, none⟩ = some x ∧ wz.cell? ⟨w.heap.size + 1, 1, none⟩ = some y ∧ wz.frozen? ⟨w.heap.size + 1, 0, none⟩ = false ∧ wz.frozen? ⟨w.heap.size + 1, 1, none⟩ = false := by
  obtain ⟨_, _, _, _, x, y, h1, h2, h3, h4⟩ := h
  exact ⟨x, y, h1, h2, h3, h4⟩
def DsPost (w : World) (e : Ending) (w' : World) : Prop := ∃ (s : Int) (zs : List Int) (g c : Nat), e = .returned (.tuple #[.int .i64 s, .slice (some ⟨g, 0, none⟩) zs.length c]) ∧ -1 ≤ s ∧ s ≤ 8 ∧ Below w.heap.size w w' ∧ GRep (Value.int .i64) w' (.slice (some ⟨g, 0, none⟩) zs.length c) zs ∧ zs.length ≤ 9 ∧ w.heap.size ≤ g
theorem row_rep1 {α : Type} {f : α → Value} {w : World} {base : Nat} {e : TypeId} {g c : Nat} {xs : List α} (h : w.ownsRow base e 1 (.slice (some ⟨g, 0, none⟩) xs.length c) xs.length (xs.map f)) : GRep f w (.slice (some ⟨g, 0, none⟩) xs.length c) xs := by
  obtain ⟨h0, ⟨h1, h2⟩ | ⟨g', cap, cur, hv, hg, hh, hc, hm, hs, ht⟩⟩ := id h
  · simp at h1
  · cases hv
    refine ⟨_, _, rfl, hc, hm, fun i hi => ⟨g, 0, rfl, ?_⟩⟩
    rw [Nat.zero_add, World.ownsRow.cellAt h i (by omega)]
    simp [hi]

end Go.Proofs.Ytfmhdjnambnglaa
