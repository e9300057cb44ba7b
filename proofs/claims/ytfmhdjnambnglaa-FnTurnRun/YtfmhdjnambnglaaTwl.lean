/- Rows as the laws look at them; labels that are turned; sets and rows that are drawn. -/
import Derived.Test.YtfmhdjnambnglaaTdr
import Derived.Test.YtfmhdjnambnglaaOdd
import Derived.Deep.RegionHeld3
import Derived.Deep.DrawnRows
namespace Go.Proofs.Ytfmhdjnambnglaa
open Go.RowKit
set_option linter.unusedSimpArgs false
set_option linter.unusedVariables false
attribute [local go_sem] World.cell?_alloc_some

theorem infoBoolT : (Try.prog.info? 4).map (fun i => (i.zero, i.size, i.bytes)) = some (some (.bool false), 1, 1) := by kernel_rfl
theorem madeCells1 (z : Value) (n q : Nat) (h : q < n) : (madeCells #[z] n).toList[q]? = some z := by simp [madeCells, h, Nat.mod_one]

set_option maxHeartbeats 4000000 in
theorem lcRow_any {v : Value} {zs : List Int} {w : World} (n : Nat) (hn : n ≤ 1048576) (hL : GRep (Value.int .i64) w v zs) :
    Calls Try.prog 16 #[v, .int .i64 n] w fun e w' => e = .returned (.bool (rowB zs n)) ∧ Below w.heap.size w w' := by
  obtain ⟨i0, hi0, hz0, hz1, hz2⟩ := info_parts infoBoolT
  obtain ⟨la, lc, rfl, hlc, hcm, hcell⟩ := hL
  have hlm : (zs.length : Int) ≤ 9223372036854775807 := by unfold maxLen at hcm; omega
  have HC : Hid _ := hcell
  have HF : Hid (∀ i (hi : i < zs.length), (vIn n zs[i] && !(zs.take i).contains zs[i]) = false → rowB zs n = false) := (show ∀ i (hi : i < zs.length), _ from fun i hi => rowTo_false hi)
  have HS : Hid (∀ i (hi : i < zs.length), rowTo zs n (i + 1) = (rowTo zs n i && (vIn n zs[i] && !(zs.take i).contains zs[i]))) := (show ∀ i (hi : i < zs.length), _ from fun i hi => rowTo_succ hi)
  have HA : Hid (rowTo zs n zs.length = true → rowB zs n = decide (zs.length = n)) := (show _ → _ from rowTo_all)
  clear hcell
  generalize rowB zs n = res at *
  go_enter Try.func16, Try.ntmps16
  go_wp2_with (at_make; refine wpList_make_full _ rfl _ _ 78 rfl w.heap.size 4 i0 _ 1 Try.underlying78 hi0 hz0 hz1 _ _ _ _ n rfl rfl rfl rfl ?b2 ?b3 ?b4 ?_)
  case b2 => rw [hz2]; omega
  case b3 => unfold maxLen; omega
  case b4 => exact Nat.le_refl _
  intro w0 own0 grow0
  have B0 : Below w.heap.size w w0 := (Below.refl _ _).grown grow0 (Nat.le_refl _) (fun k hk => by cases hk)
  have CE : ∀ q, q < n → w0.cell? ⟨w.heap.size, q, none⟩ = some (.bool ((zs.take 0).contains (q : Int))) ∧ w0.frozen? ⟨w.heap.size, q, none⟩ = false := fun q hq => ⟨by
    rw [World.ownsRow.cellAt own0 q (by omega)]; simpa using madeCells1 (.bool false) n q hq, World.ownsRow.frozenAt own0 q⟩
  clear own0 grow0
  go_wp2_with fail
  go_loopw [6] (fun j wr => ∃ (i : Nat), i ≤ zs.length ∧ j = .int .i64 i ∧ Below w.heap.size w wr ∧ rowTo zs n i = true ∧ ∀ q, q < n → wr.cell? ⟨w.heap.size, q, none⟩ = some (.bool ((zs.take i).contains (q : Int))) ∧ wr.frozen? ⟨w.heap.size, q, none⟩ = false) (fun j _ => zs.length - (intOf j).toNat)
  case atStart => exact ⟨0, by omega, rfl, B0, rfl, CE⟩
  case round =>
    obtain ⟨i, hi, rfl, hbr, hst, hce⟩ := hrel
    by_cases hlt : i < zs.length
    · obtain ⟨b, off, rfl, h0⟩ := HC.out i hlt
      replace h0 := cell_later hbr h0
      have i0' : (0 : Int) ≤ (i : Int) := by omega
      have i1' : (i : Int) < (zs.length : Int) := by omega
      have q3 := HS.out i hlt
      rw [hst, Bool.true_and] at q3
      have HO : Hid _ := q3
      have HQ : Hid _ := HF.out i hlt
      have HT : Hid (∀ x : Int, (zs.take (i + 1)).contains x = ((zs.take i).contains x || (x == zs[i]))) := (show ∀ x : Int, _ from fun x => contains_take zs x i hlt)
      have HB : Hid (Below w.heap.size w wr) := hbr
      have HCE : Hid _ := hce
      clear q3 hst hbr hce
      generalize zs[i] = y at *
      by_cases hy0 : y < 0
      · have hv : vIn n y = false := by simp [vIn]; omega
        rw [hv] at HQ
        have HRF : Hid (res = false) := HQ.out (by simp)
        clear hv
        go_wp2
        go_ret
        exact ⟨by rw [HRF.out]; first | done | rfl, HB.out⟩
      · by_cases hyn : (n : Int) ≤ y
        · have hv : vIn n y = false := by simp [vIn]; omega
          rw [hv] at HQ
          have HRF : Hid (res = false) := HQ.out (by simp)
          clear hv
          go_wp2
          go_ret
          exact ⟨by rw [HRF.out]; first | done | rfl, HB.out⟩
        · have hv : vIn n y = true := by simp [vIn]; omega
          rw [hv] at HQ HO
          obtain ⟨m, rfl⟩ := Int.eq_ofNat_of_zero_le (show 0 ≤ y by omega)
          have hm : m < n := by omega
          have hm' : (m : Int) < (n : Int) := by omega
          have hm0 : (0 : Int) ≤ (m : Int) := by omega
          obtain ⟨c0, f0⟩ := HCE.out m hm
          obtain ⟨sn, hsn⟩ : ∃ sn, (zs.take i).contains (m : Int) = sn := ⟨_, rfl⟩
          rw [hsn] at HQ HO c0
          cases sn
          · clear hv hsn
            go_wp2
            refine ⟨⟨i + 1, by omega, by simp, HB.out.setCell (Nat.le_refl _) _, by rw [HO.out]; rfl, fun q hq => ?_⟩, by simp [intOf]; omega⟩
            obtain ⟨c1, f1⟩ := HCE.out q hq
            refine ⟨?_, by rw [World.frozen?_setCell]; exact f1⟩
            rw [HT.out]
            by_cases hqm : q = m
            · subst hqm
              rw [World.cell?_setCell_same _ _ _ c0]
              simp
            · rw [World.cell?_setCell_other _ _ _ _ (by simp [hqm]), c1]
              have : ((q : Int) == (m : Int)) = false := beq_eq_false_iff_ne.2 (by omega)
              rw [this, Bool.or_false]
          · have HRF : Hid (res = false) := HQ.out (by simp)
            clear hv hsn
            go_wp2
            go_ret
            exact ⟨by rw [HRF.out]; first | done | rfl, HB.out⟩
    · have : i = zs.length := by omega
      subst this
      have HST : Hid _ := hst
      have HB : Hid (Below w.heap.size w wr) := hbr
      clear hst hbr hce
      have HRF : Hid (res = decide (zs.length = n)) := HA.out HST.out
      by_cases hln : zs.length = n
      · have hln' : (zs.length : Int) = (n : Int) := by omega
        have HRT : Hid (res = true) := (show res = true by rw [HRF.out]; exact decide_eq_true hln)
        clear hln
        go_wp2
        go_ret
        exact ⟨by rw [HRT.out]; simp [hln'], HB.out⟩
      · have hln' : ¬ (zs.length : Int) = (n : Int) := by omega
        have HRT : Hid (res = false) := (show res = false by rw [HRF.out]; exact decide_eq_false hln)
        clear hln
        go_wp2
        go_ret
        exact ⟨by rw [HRT.out]; simp [hln'], HB.out⟩

theorem lcHas_any (s h : Int) (w : World) (s0 : 0 ≤ s) (h0 : 0 ≤ h) (h2 : h ≤ 2) :
    Calls Try.prog 17 #[.int .i64 s, .int .i64 h] w fun e w' => e = .returned (.bool (hasB s h)) ∧ w' = w := by
  rw [← has_mod s0]
  go_enter Try.func17, Try.ntmps17
  go_wp2
  go_ret
  exact ⟨rfl, rfl⟩

set_option maxHeartbeats 4000000 in
theorem lcBack_any {v : Value} {zs : List Int} {w : World} (hr : rowB zs zs.length = true) (h1 : 1 ≤ zs.length) (hn : zs.length ≤ 1048576) (hL : GRep (Value.int .i64) w v zs) :
    Calls Try.prog 18 #[v] w fun e w' => ∃ g c, e = .returned (.slice (some ⟨g, 0, none⟩) zs.length c) ∧ Below w.heap.size w w' ∧ w.heap.size ≤ g ∧ GRep (Value.int .i64) w' (.slice (some ⟨g, 0, none⟩) zs.length c) (backL zs) := by
  obtain ⟨i0, hi0, hz0, hz1, hz2⟩ := info_parts infoInt
  obtain ⟨la, lc, rfl, hlc, hcm, hcell⟩ := hL
  have hlm : (zs.length : Int) ≤ 9223372036854775807 := by unfold maxLen at hcm; omega
  have HC : Hid _ := hcell
  have HR : Hid _ := hr
  clear hcell hr
  go_enter Try.func18, Try.ntmps18
  go_wp2_with (at_make; refine wpList_make_full _ rfl _ _ 23 rfl w.heap.size 3 i0 _ 1 Try.underlying23 hi0 hz0 hz1 _ _ _ _ zs.length rfl rfl rfl rfl ?b2 ?b3 ?b4 ?_)
  case b2 => rw [hz2]; omega
  case b3 => unfold maxLen; omega
  case b4 => exact Nat.le_refl _
  intro w0 own0 grow0
  have B0 : Below w.heap.size w w0 := (Below.refl _ _).grown grow0 (Nat.le_refl _) (fun k hk => by cases hk)
  have CE : ∀ q, q < zs.length → w0.cell? ⟨w.heap.size, q, none⟩ = some (.int .i64 ((backTo zs 0).getD q 0)) ∧ w0.frozen? ⟨w.heap.size, q, none⟩ = false := fun q hq => ⟨by
    rw [World.ownsRow.cellAt own0 q (by omega)]; simpa [backTo, List.getD_eq_getElem?_getD, hq] using madeCells1 (.int .i64 0) zs.length q hq, World.ownsRow.frozenAt own0 q⟩
  clear own0 grow0
  go_wp2_with fail
  go_loopw [4] (fun j wr => ∃ (i : Nat), i ≤ zs.length ∧ j = .int .i64 i ∧ Below w.heap.size w wr ∧ ∀ q, q < zs.length → wr.cell? ⟨w.heap.size, q, none⟩ = some (.int .i64 ((backTo zs i).getD q 0)) ∧ wr.frozen? ⟨w.heap.size, q, none⟩ = false) (fun j _ => zs.length - (intOf j).toNat)
  case atStart => exact ⟨0, by omega, rfl, B0, CE⟩
  case round =>
    obtain ⟨i, hi, rfl, hbr, hce⟩ := hrel
    by_cases hlt : i < zs.length
    · obtain ⟨b, off, rfl, h0⟩ := HC.out i hlt
      replace h0 := cell_later hbr h0
      have i0' : (0 : Int) ≤ (i : Int) := by omega
      have i1' : (i : Int) < (zs.length : Int) := by omega
      obtain ⟨y0, y1⟩ := rowB_in HR.out i hlt
      have HT : Hid _ := backTo_succ zs i
      have hg : zs.getD i 0 = zs[i] := by simp [List.getD_eq_getElem?_getD, List.getElem?_eq_getElem hlt]
      rw [hg] at HT
      have HB : Hid (Below w.heap.size w wr) := hbr
      have HCE : Hid _ := hce
      have HLN : Hid _ := backTo_len zs i
      clear hbr hce hg
      generalize zs[i] = y at *
      obtain ⟨m, rfl⟩ := Int.eq_ofNat_of_zero_le y0
      have hm : m < zs.length := by omega
      obtain ⟨c0, f0⟩ := HCE.out m hm
      go_wp2
      refine ⟨⟨i + 1, by omega, by simp, HB.out.setCell (Nat.le_refl _) _, fun q hq => ?_⟩, by simp [intOf]; omega⟩
      obtain ⟨c1, f1⟩ := HCE.out q hq
      refine ⟨?_, by rw [World.frozen?_setCell]; exact f1⟩
      rw [HT.out]
      by_cases hqm : q = m
      · subst hqm
        rw [World.cell?_setCell_same _ _ _ c0]
        have hl : q < (backTo zs i).length := by rw [HLN.out]; exact hq
        simp [List.getD_eq_getElem?_getD, hl]
      · rw [World.cell?_setCell_other _ _ _ _ (by simp [hqm]), c1]
        have hne : ¬ m = q := by omega
        simp [List.getD_eq_getElem?_getD, List.getElem?_set, hne]
    · have : i = zs.length := by omega
      subst this
      have HB : Hid (Below w.heap.size w wr) := hbr
      have HCE : Hid _ := hce
      clear hbr hce
      go_wp2
      go_ret
      refine ⟨w.heap.size, zs.length, rfl, HB.out, Nat.le_refl _, ⟨_, _, by unfold backL; rw [backTo_len], by unfold backL; rw [backTo_len]; exact Nat.le_refl _, by unfold maxLen; omega, fun q hq => ⟨w.heap.size, 0, rfl, ?_⟩⟩⟩
      have hq' : q < zs.length := by unfold backL at hq; rwa [backTo_len] at hq
      rw [Nat.zero_add]
      have := (HCE.out q hq').1
      rw [this, List.getD_eq_getElem?_getD, List.getElem?_eq_getElem (by rw [backTo_len]; exact hq'), Option.getD_some]
      rfl

/-- A label in its box, a row, and the box of an answer. -/
def STn (w : World) (k t : Int) (v : Value) (zs : List Int) (wz : World) : Prop := wz.cell? ⟨w.heap.size, 0, none⟩ = some (.int .i64 k) ∧ wz.cell? ⟨w.heap.size, 1, none⟩ = some (.int .i64 t) ∧ GRep (Value.int .i64) wz v zs ∧ Below w.heap.size w wz ∧ ∃ x y, Pair wz (w.heap.size + 1) x y
theorem STn.start {w : World} {k t : Int} {v : Value} {zs : List Int} (hL : GRep (Value.int .i64) w v zs) (T : TypeId) : STn w k t v zs (World.drew ((w.alloc (.cells #[.int .i64 k, .int .i64 t] T)).alloc (.cells #[.int .i64 0, .int .i64 0] T))) := by
  have A : Below w.heap.size w ((w.alloc (.cells #[.int .i64 k, .int .i64 t] T)).alloc (.cells #[.int .i64 0, .int .i64 0] T)) := ((Below.refl _ _).alloc (Nat.le_refl _) _).alloc (by simp) _
  have P := Pair.new (w.alloc (.cells #[.int .i64 k, .int .i64 t] T)) 0 0 T
  have hs : (w.alloc (.cells #[.int .i64 k, .int .i64 t] T)).heap.size = w.heap.size + 1 := by simp
  rw [hs] at P
  exact ⟨by simp [go_sem], by simp [go_sem], (hL.below A).on (fun _ _ h => h), A.drew, _, _, P⟩
theorem STn.below {w : World} {k t : Int} {v : Value} {zs : List Int} {wz wy : World} (h : STn w k t v zs wz) (hb : Below wz.heap.size wz wy) : STn w k t v zs wy := by
  obtain ⟨h0, h1, h2, h3, x, y, h4⟩ := h
  exact ⟨cell_later hb h0, cell_later hb h1, h2.below hb, Below.then h3 hb h3.size, x, y, h4.below hb⟩
theorem STn.set {w : World} {k t : Int} {v : Value} {zs : List Int} {wz : World} (h : STn w k t v zs wz) (hv : ∀ a n c, v = .slice (some a) n c → a.block < w.heap.size) (u u' : Value) : STn w k t v zs ((wz.setCell ⟨w.heap.size + 1, 0, none⟩ u).setCell ⟨w.heap.size + 1, 1, none⟩ u') := by
  obtain ⟨h0, h1, h2, h3, x, y, h4⟩ := h
  have hne : ∀ b, b ≠ w.heap.size + 1 → ((wz.setCell ⟨w.heap.size + 1, 0, none⟩ u).setCell ⟨w.heap.size + 1, 1, none⟩ u').heap[b]? = wz.heap[b]? := fun b hb => (Below.heap_setCell _ _ _ _ hb).trans (Below.heap_setCell _ _ _ _ hb)
  refine ⟨(World.cell?_of_block (hne _ (by simp))).trans h0, (World.cell?_of_block (hne _ (by simp))).trans h1, ?_, (h3.setCell (by show w.heap.size ≤ w.heap.size + 1; omega) _).setCell (by show w.heap.size ≤ w.heap.size + 1; omega) _, u, u', set_two0 h4.1 h4.2.1, set_two1 h4.1 h4.2.1, by simpa only [World.frozen?_setCell] using h4.2.2.1, by simpa only [World.frozen?_setCell] using h4.2.2.2⟩
  obtain ⟨a, c, rfl, hl, hc, hcell⟩ := h2
  refine ⟨a, c, rfl, hl, hc, fun i hi => ?_⟩
  obtain ⟨b, off, rfl, hx⟩ := hcell i hi
  have := hv _ _ _ rfl
  exact ⟨b, off, rfl, (World.cell?_of_block (hne b (by show b ≠ _; have : b < w.heap.size := this; omega))).trans hx⟩
theorem STn.cells {w : World} {k t : Int} {v : Value} {zs : List Int} {wz : World} (h : STn w k t v zs wz) : ∃ x y, wz.cell? ⟨w.heap.size + 1, 0, none⟩ = some x ∧ wz.cell? ⟨w.heap.size + 1, 1, none⟩ = some y ∧ wz.frozen? ⟨w.heap.size + 1, 0, none⟩ = false ∧ wz.frozen? ⟨w.heap.size + 1, 1, none⟩ = false := by
  obtain ⟨_, _, _, _, x, y, h1, h2, h3, h4⟩ := h
  exact ⟨x, y, h1, h2, h3, h4⟩
theorem GRep.blk {α : Type} {f : α → Value} {w : World} {a : Option Addr} {n c : Nat} {xs : List α} (h : GRep f w (.slice a n c) xs) : ∀ x m k, (Value.slice a n c) = .slice (some x) m k → 0 < xs.length → x.block < w.heap.size := by
  intro x m k he hx
  obtain ⟨a', c', he', hl, hc, hcell⟩ := h
  obtain ⟨b, off, h1, h2⟩ := hcell 0 hx
  cases he; cases he'; cases h1
  exact World.block_lt_of_cell? _ _ h2

set_option maxHeartbeats 4000000 in
set_option maxRecDepth 20000 in
theorem lcTurn_any {v : Value} {zs : List Int} {w : World} (k t : Int) (hp : 0 < zs.length) (hL : GRep (Value.int .i64) w v zs) :
    Calls Try.prog 21 #[.agg #[.int .i64 k, .int .i64 t], v] w fun e w' => e = .returned (.agg #[.int .i64 (turnR k zs), .int .i64 (turnR t zs)]) ∧ Below w.heap.size w w' := by
  have hS := STn.start (k := k) (t := t) hL 32
  obtain ⟨la, lc, rfl, -⟩ := id hL
  have HV : Hid (∀ x m q, (Value.slice la zs.length lc) = .slice (some x) m q → x.block < w.heap.size) := (show ∀ x m q, _ from fun x m q he => GRep.blk hL x m q he hp)
  clear hL
  go_enter Try.func21, Try.ntmps21
  go_upto_region 1 with fail
  refine wp_region_held (S := STn w k t (.slice la zs.length lc) zs) (by kernel_rfl) ?_
  change wpAnyH _ _ _ _ _ _ _ _ (World.drew _)
  have hHeld := hS
  clear hS
  generalize (World.drew _) = wS at hHeld ⊢
  refine' wpAnyH_take (i := 0) (v := _) rfl (by kernel_rfl) (by kernel_rfl) (by kernel_rfl) (fun _ _ _ h => h) (Or.inl ⟨by rfl, ?hy101⟩) hHeld ?hn101
  case hy101 => (intro wz hSw; go_simp; first | done | with_reducible rfl)
  try simp only [List.getElem_toArray, List.getElem_cons_zero, List.getElem_cons_succ, Act.put, List.setIfInBounds_toArray, List.set_cons_zero, List.set_cons_succ]
  refine' wpAnyH_take (i := 1) (v := .int .i64 k) rfl (by kernel_rfl) (by kernel_rfl) (by kernel_rfl) (fun _ _ _ h => h) (Or.inl ⟨by rfl, ?hy102⟩) hHeld ?hn102
  case hy102 => (intro wz hSw; obtain ⟨j0, j1, _⟩ := hSw; go_simp)
  try simp only [List.getElem_toArray, List.getElem_cons_zero, List.getElem_cons_succ, Act.put, List.setIfInBounds_toArray, List.set_cons_zero, List.set_cons_succ]
  refine' wpAnyH_take (i := 2) (v := _) rfl (by kernel_rfl) (by kernel_rfl) (by kernel_rfl) (fun _ _ _ h => h) (Or.inl ⟨by rfl, ?hy103⟩) hHeld ?hn103
  case hy103 => (intro wz hSw; go_simp; first | done | with_reducible rfl)
  try simp only [List.getElem_toArray, List.getElem_cons_zero, List.getElem_cons_succ, Act.put, List.setIfInBounds_toArray, List.set_cons_zero, List.set_cons_succ]
  refine' wpAnyH_take (i := 4) (v := _) rfl (by kernel_rfl) (by kernel_rfl) (by kernel_rfl) (fun _ _ _ h => h) (Or.inl ⟨by rfl, ?hy104⟩) hHeld ?hn104
  case hy104 => (intro wz hSw; go_simp; first | done | with_reducible rfl)
  try simp only [List.getElem_toArray, List.getElem_cons_zero, List.getElem_cons_succ, Act.put, List.setIfInBounds_toArray, List.set_cons_zero, List.set_cons_succ]
  refine' wpAnyH_take (i := 5) (v := .int .i64 t) rfl (by kernel_rfl) (by kernel_rfl) (by kernel_rfl) (fun _ _ _ h => h) (Or.inl ⟨by rfl, ?hy105⟩) hHeld ?hn105
  case hy105 => (intro wz hSw; obtain ⟨j0, j1, _⟩ := hSw; go_simp)
  try simp only [List.getElem_toArray, List.getElem_cons_zero, List.getElem_cons_succ, Act.put, List.setIfInBounds_toArray, List.set_cons_zero, List.set_cons_succ]
  refine' wpAnyH_take (i := 6) (v := _) rfl (by kernel_rfl) (by kernel_rfl) (by kernel_rfl) (fun _ _ _ h => h) (Or.inl ⟨by rfl, ?hy106⟩) hHeld ?hn106
  case hy106 => (intro wz hSw; go_simp; first | done | with_reducible rfl)
  try simp only [List.getElem_toArray, List.getElem_cons_zero, List.getElem_cons_succ, Act.put, List.setIfInBounds_toArray, List.set_cons_zero, List.set_cons_succ]
  refine wpAnyH_ready (rs := [3]) (by kernel_rfl) (by simp) ?_
  refine AllReadyH.cons rfl (fun K hK => ?_) AllReadyH.nil
  go_simp
  refine Calls.mono (turnSet_any k hHeld.2.2.1) ?_
  rintro e' w9 ⟨rfl, h9⟩
  subst h9
  refine hK.out _ _ (hHeld) (fun hHeld => ?_)
  clear hK K
  refine wpAnyH_ready (rs := [7]) (by kernel_rfl) (by simp) ?_
  refine AllReadyH.cons rfl (fun K hK => ?_) AllReadyH.nil
  go_simp
  refine Calls.mono (turnSet_any t hHeld.2.2.1) ?_
  rintro e' w9 ⟨rfl, h9⟩
  subst h9
  refine hK.out _ _ (hHeld) (fun hHeld => ?_)
  clear hK K
  refine' wpAnyH_take (i := 8) (v := _) rfl (by kernel_rfl) (by kernel_rfl) (by kernel_rfl) (fun _ _ _ h => h) (Or.inl ⟨by rfl, ?hy107⟩) hHeld ?hn107
  case hy107 => (intro wz hSw; go_simp; first | done | with_reducible rfl)
  try simp only [List.getElem_toArray, List.getElem_cons_zero, List.getElem_cons_succ, Act.put, List.setIfInBounds_toArray, List.set_cons_zero, List.set_cons_succ]
  refine wpAnyH_ready (rs := [9]) (by kernel_rfl) (by simp) ?_
  refine AllReadyH.cons rfl (fun K hK => ?_) AllReadyH.nil
  obtain ⟨x0, x1, c0, c1, f0, f1⟩ := STn.cells hHeld
  have GS := STn.set (u := Value.int .i64 (turnR k zs)) (u' := Value.int .i64 (turnR t zs)) hHeld HV.out
  have R0 := set_two0 (v0 := .int .i64 (turnR k zs)) (v1 := .int .i64 (turnR t zs)) c0 c1
  have R1 := set_two1 (v0 := .int .i64 (turnR k zs)) (v1 := .int .i64 (turnR t zs)) c0 c1
  go_simp
  clear c0 c1 f0 f1 x0 x1
  generalize (World.setCell (World.setCell _ ⟨w.heap.size + 1, 0, none⟩ _) ⟨w.heap.size + 1, 1, none⟩ _) = wF at GS R0 R1 ⊢
  refine hK.out _ _ (GS) (fun hHeld => ?_)
  clear hK K
  refine wpAnyH_done (by kernel_rfl) ?_ _
  have HBF : Hid (Below w.heap.size w wF) := hHeld.2.2.2.1
  clear hHeld GS
  go_wp2
  refine bodyPost_ret (v := .agg #[.int .i64 (turnR k zs), .int .i64 (turnR t zs)]) (by simp [results, Try.results21, go_sem, R0, R1]) rfl ⟨rfl, HBF.out⟩

theorem labelOf_two (k t : Int) (w : World) :
    Calls Try.prog 62 #[.int .i64 k, .int .i64 t] w fun e w' => e = .returned (.agg #[.int .i64 k, .int .i64 t]) ∧ Below w.heap.size w w' := by
  go_enter Try.func62, Try.ntmps62
  go_wp2
  refine bodyPost_ret (v := .agg #[.int .i64 k, .int .i64 t]) (by simp [results, Try.results62, go_sem]) rfl ⟨rfl, ?_⟩
  repeat' (first | exact Below.refl _ _ | assumption | (refine Below.drew ?_) | (refine Below.then ?_ (by assumption) ?_) | (refine Below.alloc ?_ ?_ _) | (refine Below.setCell ?_ ?_ _) | (simp; done) | (simp at *; omega) | omega)

set_option maxHeartbeats 4000000 in
set_option maxRecDepth 20000 in
theorem labelTurned_any {v : Value} {zs : List Int} {w : World} (k t : Int) (hk : 0 ≤ k ∧ k ≤ 7) (ht : 0 ≤ t ∧ t ≤ 7) (hr : rowB zs 3 = true) (hp : 0 < zs.length) (hL : GRep (Value.int .i64) w v zs) :
    Calls Try.prog 68 #[.agg #[.int .i64 k, .int .i64 t], v] w fun e w' => e = .returned (.agg #[.int .i64 (turnI k zs), .int .i64 (turnI t zs)]) ∧ Below w.heap.size w w' := by
  have hS := STn.start (k := k) (t := t) hL 32
  obtain ⟨la, lc, rfl, -⟩ := id hL
  have HV : Hid (∀ x m q, (Value.slice la zs.length lc) = .slice (some x) m q → x.block < w.heap.size) := (show ∀ x m q, _ from fun x m q he => GRep.blk hL x m q he hp)
  clear hL
  go_enter Try.func68, Try.ntmps68
  go_upto_region 1 with fail
  refine wp_region_held (S := STn w k t (.slice la zs.length lc) zs) (by kernel_rfl) ?_
  change wpAnyH _ _ _ _ _ _ _ _ (World.drew _)
  have hHeld := hS
  clear hS
  generalize (World.drew _) = wS at hHeld ⊢
  refine' wpAnyH_take (i := 0) (v := .agg #[.int .i64 k, .int .i64 t]) rfl (by kernel_rfl) (by kernel_rfl) (by kernel_rfl) (fun _ _ _ h => h) (Or.inl ⟨by rfl, ?hy108⟩) hHeld ?hn108
  case hy108 => (intro wz hSw; obtain ⟨j0, j1, _⟩ := hSw; go_simp)
  try simp only [List.getElem_toArray, List.getElem_cons_zero, List.getElem_cons_succ, Act.put, List.setIfInBounds_toArray, List.set_cons_zero, List.set_cons_succ]
  refine' wpAnyH_take (i := 2) (v := _) rfl (by kernel_rfl) (by kernel_rfl) (by kernel_rfl) (fun _ _ _ h => h) (Or.inl ⟨by rfl, ?hy109⟩) hHeld ?hn109
  case hy109 => (intro wz hSw; go_simp; first | done | with_reducible rfl)
  try simp only [List.getElem_toArray, List.getElem_cons_zero, List.getElem_cons_succ, Act.put, List.setIfInBounds_toArray, List.set_cons_zero, List.set_cons_succ]
  refine' wpAnyH_take (i := 4) (v := .agg #[.int .i64 k, .int .i64 t]) rfl (by kernel_rfl) (by kernel_rfl) (by kernel_rfl) (fun _ _ _ h => h) (Or.inl ⟨by rfl, ?hy110⟩) hHeld ?hn110
  case hy110 => (intro wz hSw; obtain ⟨j0, j1, _⟩ := hSw; go_simp)
  try simp only [List.getElem_toArray, List.getElem_cons_zero, List.getElem_cons_succ, Act.put, List.setIfInBounds_toArray, List.set_cons_zero, List.set_cons_succ]
  refine' wpAnyH_take (i := 6) (v := _) rfl (by kernel_rfl) (by kernel_rfl) (by kernel_rfl) (fun _ _ _ h => h) (Or.inl ⟨by rfl, ?hy111⟩) hHeld ?hn111
  case hy111 => (intro wz hSw; go_simp; first | done | with_reducible rfl)
  try simp only [List.getElem_toArray, List.getElem_cons_zero, List.getElem_cons_succ, Act.put, List.setIfInBounds_toArray, List.set_cons_zero, List.set_cons_succ]
  refine wpAnyH_ready (rs := [1]) (by kernel_rfl) (by simp) ?_
  refine AllReadyH.cons rfl (fun K hK => ?_) AllReadyH.nil
  go_simp
  refine Calls.mono (knowers_any k t _) ?_
  rintro e' w9 ⟨rfl, hbx⟩
  replace hHeld := hHeld.below hbx
  clear hbx
  refine hK.out _ _ (hHeld) (fun hHeld => ?_)
  clear hK K
  refine wpAnyH_ready (rs := [3]) (by kernel_rfl) (by simp) ?_
  refine AllReadyH.cons rfl (fun K hK => ?_) AllReadyH.nil
  go_simp
  refine Calls.mono (turned_any k hk.1 hk.2 hr hHeld.2.2.1) ?_
  rintro e' w9 ⟨rfl, h9⟩
  subst h9
  refine hK.out _ _ (hHeld) (fun hHeld => ?_)
  clear hK K
  refine wpAnyH_ready (rs := [5]) (by kernel_rfl) (by simp) ?_
  refine AllReadyH.cons rfl (fun K hK => ?_) AllReadyH.nil
  go_simp
  refine Calls.mono (trusters_any k t _) ?_
  rintro e' w9 ⟨rfl, hbx⟩
  replace hHeld := hHeld.below hbx
  clear hbx
  refine hK.out _ _ (hHeld) (fun hHeld => ?_)
  clear hK K
  refine wpAnyH_ready (rs := [7]) (by kernel_rfl) (by simp) ?_
  refine AllReadyH.cons rfl (fun K hK => ?_) AllReadyH.nil
  go_simp
  refine Calls.mono (turned_any t ht.1 ht.2 hr hHeld.2.2.1) ?_
  rintro e' w9 ⟨rfl, h9⟩
  subst h9
  refine hK.out _ _ (hHeld) (fun hHeld => ?_)
  clear hK K
  refine wpAnyH_ready (rs := [8]) (by kernel_rfl) (by simp) ?_
  refine AllReadyH.cons rfl (fun K hK => ?_) AllReadyH.nil
  go_simp
  refine Calls.mono (labelOf_two _ _ _) ?_
  rintro e' w9 ⟨rfl, hbx⟩
  replace hHeld := hHeld.below hbx
  clear hbx
  refine hK.out _ _ (hHeld) (fun hHeld => ?_)
  clear hK K
  refine wpAnyH_ready (rs := [9]) (by kernel_rfl) (by simp) ?_
  refine AllReadyH.cons rfl (fun K hK => ?_) AllReadyH.nil
  obtain ⟨x0, x1, c0, c1, f0, f1⟩ := STn.cells hHeld
  have GS := STn.set (u := Value.int .i64 (turnI k zs)) (u' := Value.int .i64 (turnI t zs)) hHeld HV.out
  have R0 := set_two0 (v0 := .int .i64 (turnI k zs)) (v1 := .int .i64 (turnI t zs)) c0 c1
  have R1 := set_two1 (v0 := .int .i64 (turnI k zs)) (v1 := .int .i64 (turnI t zs)) c0 c1
  go_simp
  clear c0 c1 f0 f1 x0 x1
  generalize (World.setCell (World.setCell _ ⟨w.heap.size + 1, 0, none⟩ _) ⟨w.heap.size + 1, 1, none⟩ _) = wF at GS R0 R1 ⊢
  refine hK.out _ _ (GS) (fun hHeld => ?_)
  clear hK K
  refine wpAnyH_done (by kernel_rfl) ?_ _
  have HBF : Hid (Below w.heap.size w wF) := hHeld.2.2.2.1
  clear hHeld GS
  go_wp2
  refine bodyPost_ret (v := .agg #[.int .i64 (turnI k zs), .int .i64 (turnI t zs)]) (by simp [results, Try.results68, go_sem, R0, R1]) rfl ⟨rfl, HBF.out⟩

def DsPost (w : World) (e : Ending) (w' : World) : Prop := ∃ (s : Int) (zs : List Int) (g c : Nat), e = .returned (.tuple #[.int .i64 s, .slice (some ⟨g, 0, none⟩) zs.length c]) ∧ -1 ≤ s ∧ s ≤ 8 ∧ Below w.heap.size w w' ∧ GRep (Value.int .i64) w' (.slice (some ⟨g, 0, none⟩) zs.length c) zs ∧ zs.length ≤ 9 ∧ w.heap.size ≤ g
theorem row_rep1 {α : Type} {f : α → Value} {w : World} {base : Nat} {e : TypeId} {g c : Nat} {xs : List α} (h : w.ownsRow base e 1 (.slice (some ⟨g, 0, none⟩) xs.length c) xs.length (xs.map f)) : GRep f w (.slice (some ⟨g, 0, none⟩) xs.length c) xs := by
  obtain ⟨h0, ⟨h1, h2⟩ | ⟨g', cap, cur, hv, hg, hh, hc, hm, hs, ht⟩⟩ := id h
  · simp at h1
  · cases hv
    refine ⟨_, _, rfl, hc, hm, fun i hi => ⟨g, 0, rfl, ?_⟩⟩
    rw [Nat.zero_add, World.ownsRow.cellAt h i (by omega)]
    simp [hi]

set_option maxHeartbeats 4000000 in
theorem drawTurnSet_any (w : World) (a0 : Option Addr) (len0 cap0 : Nat) (zs0 : List Int) (h : IsRow .u8 w a0 len0 cap0 zs0) : Calls Try.prog 13 #[.slice a0 len0 cap0] w (DsPost w) := by
  have C1 : Hid _ := l6Open_any _ a0 len0 cap0 zs0 h
  go_enter Try.func13, Try.ntmps13
  go_wp2_with fail
  go_at_call 47; refine Calls.mono C1.out ?_
  rintro e w1 ⟨rfl, rd1, sz1, hb1⟩
  have P1 : Hid _ := pick2 w1 w.heap.size 0 9 ⟨0, by omega, rd1⟩ (by omega) (by omega) (by omega)
  have HB1 : Hid (Below w.heap.size w w1) := hb1
  clear C1 rd1 hb1
  go_wp2_with fail
  go_at_call 48; refine Calls.mono P1.out ?_
  rintro e w2 ⟨k, rfl, k0, k9, rd2, ot2⟩
  have P2 : Hid _ := pick2 w2 w.heap.size _ 9 rd2 (by omega) (by omega) (by omega)
  have HB2 : Hid (Below w.heap.size w w2) := HB1.out.trans (ot2.below (by omega) (by omega))
  have z2 : w1.heap.size ≤ w2.heap.size := ot2.size
  clear P1 rd2 ot2
  go_wp2_with fail
  go_at_call 48; refine Calls.mono P2.out ?_
  rintro e w3 ⟨q, rfl, q0, q9, rd3, ot3⟩
  have P3 : Hid _ := l71Row_any w3 w.heap.size _ 3 rd3 (by omega) (by omega) (by omega)
  have HB3 : Hid (Below w.heap.size w w3) := HB2.out.trans (ot3.below (by omega) (by omega))
  have z3 : w2.heap.size ≤ w3.heap.size := ot3.size
  have v1 := w64 (q.tdiv 8) (by rw [Int.tdiv_eq_ediv_of_nonneg q0]; omega)
  have v2 := w64 (k - q.tdiv 8) (by rw [Int.tdiv_eq_ediv_of_nonneg q0]; omega)
  have HQ : Hid (-1 ≤ k - q.tdiv 8 ∧ k - q.tdiv 8 ≤ 8) := (show -1 ≤ k - q.tdiv 8 ∧ k - q.tdiv 8 ≤ 8 by rw [Int.tdiv_eq_ediv_of_nonneg q0]; omega)
  clear P2 rd3 ot3
  generalize hX : q.tdiv 8 = qd at *
  go_wp2_with fail
  go_at_call 49; refine Calls.mono P3.out ?_
  rintro e w4 ⟨zs, g, c, rfl, rd4, ot4, or4, zl⟩
  have HB4 : Hid (Below w.heap.size w w4) := HB3.out.trans (ot4.below (by omega) (by omega))
  have HG : Hid _ := row_rep1 or4
  have hg := (World.ownsRow.lt or4 g rfl).1
  clear P3 rd4 ot4 or4
  go_wp2
  refine bodyPost_ret (v := .tuple #[.int .i64 (k - qd), .slice (some ⟨g, 0, none⟩) zs.length c]) (by simp [results, Try.results13, go_sem]) rfl ?_
  exact ⟨_, zs, g, c, rfl, HQ.out.1, HQ.out.2, HB4.out, HG.out, zl, by omega⟩

end Go.Proofs.Ytfmhdjnambnglaa
