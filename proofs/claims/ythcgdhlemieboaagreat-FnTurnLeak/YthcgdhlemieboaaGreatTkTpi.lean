/- A program turned by the program. -/
import Derived.Test.YthcgdhlemieboaaGreatTkTih
import Derived.Test.YthcgdhlemieboaaGreatTkTmw
import Derived.Test.YthcgdhlemieboaaGreatTkImp
import Derived.Test.YthcgdhlemieboaaGreatTkDpr
import Derived.Test.YthcgdhlemieboaaGreatTkRpp
import Derived.Deep.DeepCutAuto
import Derived.Deep.RegionHeld3
import Derived.Deep.DrawnRows
import Derived.Test.YthcgdhlemieboaaGreatTkTps
namespace Go.Proofs.YthcgdhlemieboaaGreat
open Go.RowKit
set_option linter.unusedSimpArgs false
set_option linter.unusedVariables false
attribute [local go_sem] World.cell?_alloc_some

set_option maxHeartbeats 4000000 in
set_option maxRecDepth 20000 in
theorem turnProg_any {d : Nat} {T : Tr d} {lv sv nv : Value} {ls : List (Int × Int)} {zs : List Int} {w : World} (hL : LRep w lv ls) (hR : Rep w d sv T) (hN : GRep (Value.int .i64) w nv zs) :
    Calls Tryz.prog 7 #[.agg #[lv, sv], nv] w (TpPost w (tpOk zs ls d T) (tpL zs ls d T) d (tpT zs ls d T)) := by
  obtain ⟨la, lc, hv0, -⟩ := id hL
  obtain ⟨sa, sc, hv1⟩ := id hR.slice
  obtain ⟨ra, rc, hv2, -⟩ := id hN
  subst hv0 hv1 hv2
  have A : Below w.heap.size w ((w.alloc (.cells #[.slice la ls.length lc, .slice sa (ln d T) sc] 26)).alloc (.cells #[.slice none 0 0, .slice none 0 0] 26)) := ((Below.refl _ _).alloc (Nat.le_refl _) _).alloc (by simp) _
  have C1 : Hid _ := progOk_any (hL.below A) (hR.below A)
  have KR : Hid (∀ wx, Below w.heap.size w wx → Calls Tryz.prog 25 #[.slice ra zs.length rc, .int .i64 3] wx fun e w' => e = .returned (.bool (rowB zs 3)) ∧ w' = wx) := (show ∀ wx, _ from fun wx hb => isRow_any 3 (hN.below hb))
  have HL : Hid (∀ wx, Below w.heap.size w wx → LRep wx (.slice la ls.length lc) ls) := (show ∀ wx, _ from fun wx hb => hL.below hb)
  have HR : Hid (∀ wx, Below w.heap.size w wx → Rep wx d (.slice sa (ln d T) sc) T) := (show ∀ wx, _ from fun wx hb => hR.below hb)
  have HN : Hid (∀ wx, Below w.heap.size w wx → GRep (Value.int .i64) wx (.slice ra zs.length rc) zs) := (show ∀ wx, _ from fun wx hb => hN.below hb)
  have hA := A.size
  have G1 := (C2.new w (.slice la ls.length lc) (.slice sa (ln d T) sc) 26).same (Below.heap_alloc _ (.cells #[.slice none 0 0, .slice none 0 0] 26) _ (by simp))
  have G2 := C2.new (w.alloc (.cells #[.slice la ls.length lc, .slice sa (ln d T) sc] 26)) (.slice none 0 0) (.slice none 0 0) 26
  rw [show (w.alloc (.cells #[.slice la ls.length lc, .slice sa (ln d T) sc] 26)).heap.size = w.heap.size + 1 by simp] at G2
  have hs : ((w.alloc (.cells #[.slice la ls.length lc, .slice sa (ln d T) sc] 26)).alloc (.cells #[.slice none 0 0, .slice none 0 0] 26)).heap.size = w.heap.size + 2 := by simp
  obtain ⟨W0, hW⟩ : ∃ W, (w.alloc (.cells #[.slice la ls.length lc, .slice sa (ln d T) sc] 26)).alloc (.cells #[.slice none 0 0, .slice none 0 0] 26) = W := ⟨_, rfl⟩
  rw [hW] at A C1 G1 G2 hs
  have HW : Hid _ := hW
  have HA : Hid (Below w.heap.size w W0) := A
  have HG1 : Hid (C2 W0 w.heap.size (.slice la ls.length lc) (.slice sa (ln d T) sc)) := G1
  have HG2 : Hid (C2 W0 (w.heap.size + 1) (.slice none 0 0) (.slice none 0 0)) := G2
  clear hL hR hN A hA G1 G2 hW
  obtain ⟨pb, hpb⟩ : ∃ pb, progB ls d T = pb := ⟨_, rfl⟩
  obtain ⟨rbb, hrb⟩ : ∃ rb, rowB zs 3 = rb := ⟨_, rfl⟩
  have HOK : Hid (tpOk zs ls d T = (pb && rbb)) := (show tpOk zs ls d T = (pb && rbb) by unfold tpOk; rw [hpb, hrb])
  have HLL : Hid (tpL zs ls d T = if (pb && rbb) = true then turnLs zs ls else []) := (show tpL zs ls d T = _ by unfold tpL; rw [HOK.out])
  have HTT : Hid (tpT zs ls d T = if (pb && rbb) = true then mapT (hostF zs) d T else noT d) := (show tpT zs ls d T = _ by unfold tpT; rw [HOK.out])
  rw [HOK.out, HLL.out, HTT.out]
  rw [hpb] at C1
  rw [hrb] at KR
  have HPB : Hid _ := hpb
  have HRB : Hid _ := hrb
  clear hpb hrb HOK HLL HTT
  cases pb
  · rw [Bool.false_and, if_neg (by simp), if_neg (by simp)]
    go_enter Tryz.func7, Tryz.ntmps7
    go_wp2_with fail
    rw [HW.out]
    clear HW
    go_at_call 17; refine Calls.mono C1.out ?_
    rintro e w1 ⟨rfl, hb1⟩
    have HB1 : Hid (Below w.heap.size w w1) := Below.then HA.out hb1 HA.out.size
    have HP1 : Hid (C2 w1 w.heap.size (.slice la ls.length lc) (.slice sa (ln d T) sc)) := HG1.out.same (hb1.block _ (by omega))
    have HZ1 : Hid (C2 w1 (w.heap.size + 1) (.slice none 0 0) (.slice none 0 0)) := HG2.out.same (hb1.block _ (by omega))
    have hs1 : w.heap.size + 1 < w1.heap.size := by have := hb1.size; omega
    clear hb1 C1 HG1 HG2 HA
    obtain ⟨⟨z0, z1⟩, y0, y1⟩ := HZ1.out
    go_wp2
    refine bodyPost_ret (v := .tuple #[.agg #[.slice none 0 0, .slice none 0 0], .bool false]) (by simp [results, Tryz.results7, go_sem, z0, z1]) rfl ?_
    exact TpPost.none rfl rfl rfl (by simpa using (HB1.out.setCell (p := ⟨w.heap.size + 1, 0, none⟩) (by show w.heap.size ≤ w.heap.size + 1; omega) _).setCell (p := ⟨w.heap.size + 1, 1, none⟩) (by show w.heap.size ≤ w.heap.size + 1; omega) _)
  cases rbb
  · rw [Bool.and_false, if_neg (by simp), if_neg (by simp)]
    go_enter Tryz.func7, Tryz.ntmps7
    go_wp2_with fail
    rw [HW.out]
    clear HW
    go_at_call 17; refine Calls.mono C1.out ?_
    rintro e w1 ⟨rfl, hb1⟩
    have HB1 : Hid (Below w.heap.size w w1) := Below.then HA.out hb1 HA.out.size
    have HP1 : Hid (C2 w1 w.heap.size (.slice la ls.length lc) (.slice sa (ln d T) sc)) := HG1.out.same (hb1.block _ (by omega))
    have HZ1 : Hid (C2 w1 (w.heap.size + 1) (.slice none 0 0) (.slice none 0 0)) := HG2.out.same (hb1.block _ (by omega))
    have hs1 : w.heap.size + 1 < w1.heap.size := by have := hb1.size; omega
    clear hb1 C1 HG1 HG2 HA
    obtain ⟨⟨p0, p1⟩, -⟩ := HP1.out
    go_wp2_with fail
    (try go_at_call 25); refine Calls.mono (KR.out _ HB1.out) ?_
    rintro e wq ⟨rfl, hq⟩; rw [hq]; clear hq wq KR
    obtain ⟨⟨z0, z1⟩, y0, y1⟩ := HZ1.out
    go_wp2
    refine bodyPost_ret (v := .tuple #[.agg #[.slice none 0 0, .slice none 0 0], .bool false]) (by simp [results, Tryz.results7, go_sem, z0, z1]) rfl ?_
    exact TpPost.none rfl rfl rfl (by simpa using (HB1.out.setCell (p := ⟨w.heap.size + 1, 0, none⟩) (by show w.heap.size ≤ w.heap.size + 1; omega) _).setCell (p := ⟨w.heap.size + 1, 1, none⟩) (by show w.heap.size ≤ w.heap.size + 1; omega) _)
  rw [Bool.and_self, if_pos rfl, if_pos rfl]
  go_enter Tryz.func7, Tryz.ntmps7
  go_wp2_with fail
  rw [HW.out]
  clear HW
  go_at_call 17; refine Calls.mono C1.out ?_
  rintro e w1 ⟨rfl, hb1⟩
  have HB1 : Hid (Below w.heap.size w w1) := Below.then HA.out hb1 HA.out.size
  have HP1 : Hid (C2 w1 w.heap.size (.slice la ls.length lc) (.slice sa (ln d T) sc)) := HG1.out.same (hb1.block _ (by omega))
  have HZ1 : Hid (C2 w1 (w.heap.size + 1) (.slice none 0 0) (.slice none 0 0)) := HG2.out.same (hb1.block _ (by omega))
  have hs1 : w.heap.size + 1 < w1.heap.size := by have := hb1.size; omega
  clear hb1 C1 HG1 HG2 HA
  obtain ⟨⟨p0, p1⟩, -⟩ := HP1.out
  go_wp2_with fail
  (try go_at_call 25); refine Calls.mono (KR.out _ HB1.out) ?_
  rintro e wq ⟨rfl, hq⟩; rw [hq]; clear hq wq KR
  obtain ⟨hl4, hlb, hst, hc8⟩ := progB4 HPB.out
  have CLb : Hid (∀ wx, Below w.heap.size w wx → Calls Tryz.prog 26 #[.slice la ls.length lc, .slice ra zs.length rc, .func (.func 27) #[] #[]] wx fun e w' => ∃ v' bs, e = .returned v' ∧ Below wx.heap.size wx w' ∧ LOwn w' v' (turnLs zs ls) bs ∧ (∀ b ∈ bs, wx.heap.size ≤ b ∧ b < w'.heap.size)) := (show ∀ wx, _ from fun wx hb => labelsEach_any (HL.out wx hb) (by omega) hlb HRB.out (HN.out wx hb))
  have CSt : Hid (∀ wx, Below w.heap.size w wx → Calls Tryz.prog 28 #[.slice sa (ln d T) sc, .slice ra zs.length rc, .func (.func 29) #[] #[]] wx fun e w' => ∃ v' bs, e = .returned v' ∧ Below wx.heap.size wx w' ∧ Own w' d v' (mapT (hostF zs) d T) bs ∧ (∀ b ∈ bs, wx.heap.size ≤ b ∧ b < w'.heap.size) ∧ bs.Nodup) := (show ∀ wx, _ from fun wx hb => hostsTurned_each zs (n := ls.length) ra rc (rowB_len HRB.out) (by rw [rowB_len HRB.out]; omega) d T _ wx (HR.out wx hb) (by omega) (HN.out wx hb) (allP_of d 3 T hst))
  obtain ⟨LL, hLL⟩ : ∃ LL, turnLs zs ls = LL := ⟨_, rfl⟩
  obtain ⟨TT, hTT⟩ : ∃ TT, mapT (hostF zs) d T = TT := ⟨_, rfl⟩
  rw [hLL] at CLb
  rw [hTT] at CSt
  have HLE : Hid _ := hLL
  have HTE : Hid _ := hTT
  clear hLL hTT hlb hst hc8 HPB HRB
  go_upto_region 3 with fail
  refine wp_region_held (S := (fun wz => wz.cell? ⟨w.heap.size, 0, none⟩ = some (.slice la ls.length lc) ∧ wz.cell? ⟨w.heap.size, 1, none⟩ = some (.slice sa (ln d T) sc) ∧ Below w.heap.size w wz)) (by kernel_rfl) ?_
  change wpAnyH _ _ _ _ _ _ _ _ (World.drew _)
  have hHeld := (show (fun wz => wz.cell? ⟨w.heap.size, 0, none⟩ = some (.slice la ls.length lc) ∧ wz.cell? ⟨w.heap.size, 1, none⟩ = some (.slice sa (ln d T) sc) ∧ Below w.heap.size w wz) (World.drew w1) from ⟨p0, p1, HB1.out.drew⟩)
  have HZ : Hid (C2 (World.drew w1) (w.heap.size + 1) (.slice none 0 0) (.slice none 0 0)) := HZ1.out
  have hsd : w.heap.size + 1 < (World.drew w1).heap.size := hs1
  clear p0 p1 HZ1 HP1 hs1
  generalize World.drew w1 = wd at hHeld HZ hsd ⊢
  refine' wpAnyH_take (i := 0) (v := _) rfl (by kernel_rfl) (by kernel_rfl) (by kernel_rfl) (fun _ _ _ h => h) (Or.inl ⟨by rfl, ?hy1501⟩) hHeld ?hn1501
  case hy1501 => (intro wz hSw; go_simp; first | done | with_reducible rfl)
  try simp only [nrm, Act.put]
  refine' wpAnyH_take (i := 1) (v := (.slice la ls.length lc)) rfl (by kernel_rfl) (by kernel_rfl) (by kernel_rfl) (fun _ _ _ h => h) (Or.inl ⟨by rfl, ?hy1502⟩) hHeld ?hn1502
  case hy1502 => (intro wz hSw; have j0 := hSw.1; have j1 := hSw.2.1; go_simp)
  try simp only [nrm, Act.put]
  refine' wpAnyH_take (i := 2) (v := _) rfl (by kernel_rfl) (by kernel_rfl) (by kernel_rfl) (fun _ _ _ h => h) (Or.inl ⟨by rfl, ?hy1503⟩) hHeld ?hn1503
  case hy1503 => (intro wz hSw; go_simp; first | done | with_reducible rfl)
  try simp only [nrm, Act.put]
  refine' wpAnyH_take (i := 4) (v := _) rfl (by kernel_rfl) (by kernel_rfl) (by kernel_rfl) (fun _ _ _ h => h) (Or.inl ⟨by rfl, ?hy1504⟩) hHeld ?hn1504
  case hy1504 => (intro wz hSw; go_simp; first | done | with_reducible rfl)
  try simp only [nrm, Act.put]
  refine' wpAnyH_take (i := 5) (v := (.slice sa (ln d T) sc)) rfl (by kernel_rfl) (by kernel_rfl) (by kernel_rfl) (fun _ _ _ h => h) (Or.inl ⟨by rfl, ?hy1505⟩) hHeld ?hn1505
  case hy1505 => (intro wz hSw; have j0 := hSw.1; have j1 := hSw.2.1; go_simp)
  try simp only [nrm, Act.put]
  refine' wpAnyH_take (i := 6) (v := _) rfl (by kernel_rfl) (by kernel_rfl) (by kernel_rfl) (fun _ _ _ h => h) (Or.inl ⟨by rfl, ?hy1506⟩) hHeld ?hn1506
  case hy1506 => (intro wz hSw; go_simp; first | done | with_reducible rfl)
  try simp only [nrm, Act.put]
  refine wpAnyH_ready (rs := [3]) (by kernel_rfl) (by simp) ?_
  refine AllReadyH.cons rfl (fun K hK => ?_) AllReadyH.nil
  go_simp
  refine Calls.mono (CLb.out _ hHeld.2.2) ?_
  rintro e' wa ⟨lv', b1, rfl, hba, o1, r1⟩
  obtain ⟨la', lc', rfl, -⟩ := o1.rep
  have HO1 : Hid (LOwn wa (.slice la' LL.length lc') LL b1) := o1
  have HR1 : Hid (∀ b ∈ b1, wd.heap.size ≤ b ∧ b < wa.heap.size) := r1
  have HZa : Hid (C2 wa (w.heap.size + 1) (.slice none 0 0) (.slice none 0 0)) := HZ.out.same (hba.block _ hsd)
  have hsa : wd.heap.size ≤ wa.heap.size := hba.size
  have hq := (show (fun wz => wz.cell? ⟨w.heap.size, 0, none⟩ = some (.slice la ls.length lc) ∧ wz.cell? ⟨w.heap.size, 1, none⟩ = some (.slice sa (ln d T) sc) ∧ Below w.heap.size w wz) wa from ⟨cell_later hba hHeld.1, cell_later hba hHeld.2.1, Below.then hHeld.2.2 hba hHeld.2.2.size⟩)
  clear o1 r1 hba HZ
  refine hK.out _ _ (hq) (fun hHeld => ?_)
  clear hK K
  refine wpAnyH_ready (rs := [7]) (by kernel_rfl) (by simp) ?_
  refine AllReadyH.cons rfl (fun K hK => ?_) AllReadyH.nil
  go_simp
  refine Calls.mono (CSt.out _ hHeld.2.2) ?_
  rintro e' wb ⟨sv', b2, rfl, hbb, o2, r2, n2⟩
  obtain ⟨sa', sc', rfl⟩ := o2.slice
  have HO1b : Hid (LOwn wb (.slice la' LL.length lc') LL b1) := LOwn.frame (fun b hb => hbb.block b (HR1.out b hb).2) HO1.out
  have HO2 : Hid (Own wb d (.slice sa' (ln d TT) sc') TT b2) := o2
  have HR2 : Hid (∀ b ∈ b2, wa.heap.size ≤ b ∧ b < wb.heap.size) := r2
  have HN2 : Hid _ := n2
  have HZb : Hid (C2 wb (w.heap.size + 1) (.slice none 0 0) (.slice none 0 0)) := HZa.out.same (hbb.block _ (by omega))
  have hsb : wa.heap.size ≤ wb.heap.size := hbb.size
  have hq2 := (show (fun wz => wz.cell? ⟨w.heap.size, 0, none⟩ = some (.slice la ls.length lc) ∧ wz.cell? ⟨w.heap.size, 1, none⟩ = some (.slice sa (ln d T) sc) ∧ Below w.heap.size w wz) wb from ⟨cell_later hbb hHeld.1, cell_later hbb hHeld.2.1, Below.then hHeld.2.2 hbb hHeld.2.2.size⟩)
  clear o2 r2 n2 hbb HZa HO1
  refine hK.out _ _ (hq2) (fun hHeld => ?_)
  clear hK K
  refine' wpAnyH_take (i := 8) (v := _) rfl (by kernel_rfl) (by kernel_rfl) (by kernel_rfl) (fun _ _ _ h => h) (Or.inl ⟨by rfl, ?hy1507⟩) hHeld ?hn1507
  case hy1507 => (intro wz hSw; go_simp; first | done | with_reducible rfl)
  try simp only [nrm, Act.put]
  refine wpAnyH_ready (rs := [9]) (by kernel_rfl) (by simp) ?_
  refine AllReadyH.cons rfl (fun K hK => ?_) AllReadyH.nil
  obtain ⟨⟨z0, z1⟩, y0, y1⟩ := HZb.out
  have R0 := set_two0 (v0 := .slice la' LL.length lc') (v1 := .slice sa' (ln d TT) sc') z0 z1
  have R1 := set_two1 (v0 := .slice la' LL.length lc') (v1 := .slice sa' (ln d TT) sc') z0 z1
  have hne : ∀ b, b ≠ w.heap.size + 1 → ((wb.setCell ⟨w.heap.size + 1, 0, none⟩ (.slice la' LL.length lc')).setCell ⟨w.heap.size + 1, 1, none⟩ (.slice sa' (ln d TT) sc')).heap[b]? = wb.heap[b]? := fun b hb => (Below.heap_setCell _ _ _ _ hb).trans (Below.heap_setCell _ _ _ _ hb)
  have hq3 := (show (fun wz => wz.cell? ⟨w.heap.size, 0, none⟩ = some (.slice la ls.length lc) ∧ wz.cell? ⟨w.heap.size, 1, none⟩ = some (.slice sa (ln d T) sc) ∧ Below w.heap.size w wz) ((wb.setCell ⟨w.heap.size + 1, 0, none⟩ (.slice la' LL.length lc')).setCell ⟨w.heap.size + 1, 1, none⟩ (.slice sa' (ln d TT) sc')) from ⟨(World.cell?_of_block (hne _ (by simp))).trans hHeld.1, (World.cell?_of_block (hne _ (by simp))).trans hHeld.2.1, (hHeld.2.2.setCell (p := ⟨w.heap.size + 1, 0, none⟩) (by show w.heap.size ≤ w.heap.size + 1; omega) _).setCell (p := ⟨w.heap.size + 1, 1, none⟩) (by show w.heap.size ≤ w.heap.size + 1; omega) _⟩)
  have P1 : LOwn ((wb.setCell ⟨w.heap.size + 1, 0, none⟩ (.slice la' LL.length lc')).setCell ⟨w.heap.size + 1, 1, none⟩ (.slice sa' (ln d TT) sc')) (.slice la' LL.length lc') LL b1 := LOwn.frame (fun b hb => hne b (by have := HR1.out b hb; omega)) HO1b.out
  have P2 : Own ((wb.setCell ⟨w.heap.size + 1, 0, none⟩ (.slice la' LL.length lc')).setCell ⟨w.heap.size + 1, 1, none⟩ (.slice sa' (ln d TT) sc')) d (.slice sa' (ln d TT) sc') TT b2 := Own.frame (fun b hb => hne b (by have := HR2.out b hb; omega)) HO2.out
  have sF : ((wb.setCell ⟨w.heap.size + 1, 0, none⟩ (.slice la' LL.length lc')).setCell ⟨w.heap.size + 1, 1, none⟩ (.slice sa' (ln d TT) sc')).heap.size = wb.heap.size := by simp [World.setCell]
  go_simp
  clear z0 z1 y0 y1 hne
  generalize ((wb.setCell ⟨w.heap.size + 1, 0, none⟩ (.slice la' LL.length lc')).setCell ⟨w.heap.size + 1, 1, none⟩ (.slice sa' (ln d TT) sc')) = wF at R0 R1 hq3 P1 P2 sF ⊢
  refine hK.out _ _ (hq3) (fun hHeld => ?_)
  clear hK K
  refine' wpAnyH_take (i := 10) (v := _) rfl (by kernel_rfl) (by kernel_rfl) (by kernel_rfl) (fun _ _ _ h => h) (Or.inl ⟨by rfl, ?hy1508⟩) hHeld ?hn1508
  case hy1508 => (intro wz hSw; go_simp; first | done | with_reducible rfl)
  try simp only [nrm, Act.put]
  refine wpAnyH_done (by kernel_rfl) ?_ _
  have HBF := hHeld.2.2
  have HP1 : Hid _ := P1
  have HP2 : Hid _ := P2
  clear hHeld hq3 P1 P2
  go_wp2
  refine bodyPost_ret (v := .tuple #[.agg #[.slice la' LL.length lc', .slice sa' (ln d TT) sc'], .bool true]) (by simp [results, Tryz.results7, go_sem, R0, R1]) rfl ?_
  have r1 := HR1.out
  have r2 := HR2.out
  refine ⟨_, _, b1, b2, rfl, HBF, by rw [HLE.out]; exact HP1.out, by rw [HTE.out]; exact HP2.out, ?_, HN2.out, ?_⟩
  · intro b hb
    rcases List.mem_append.1 hb with hb | hb
    · have := r1 b hb; omega
    · have := r2 b hb; omega
  · intro b hb hb'
    have := r1 b hb
    have := r2 b hb'
    omega

end Go.Proofs.YthcgdhlemieboaaGreat
