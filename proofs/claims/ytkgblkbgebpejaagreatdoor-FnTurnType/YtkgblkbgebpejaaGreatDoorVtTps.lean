/- A program turned by the model. -/
import Derived.Test.YtkgblkbgebpejaaGreatDoorVtTsh
import Derived.Test.YtkgblkbgebpejaaGreatDoorVtTpc
import Derived.Test.YtkgblkbgebpejaaGreatDoorVtOdd
import Derived.Test.YtkgblkbgebpejaaGreatDoorVtRpp
import Derived.Deep.DeepCutAuto
import Derived.Deep.RegionHeld3
import Derived.Deep.DrawnRows
namespace Go.Proofs.YtkgblkbgebpejaaGreatDoor
open Go.RowKit
set_option linter.unusedSimpArgs false
set_option linter.unusedVariables false
attribute [local go_sem] World.cell?_alloc_some

set_option maxHeartbeats 8000000 in
set_option maxRecDepth 20000 in
theorem sTurnProg_any {d : Nat} {T : Tr d} {lv sv nv : Value} {ls : List (Int × Int)} {zs : List Int} {w : World} (hL : LRep w lv ls) (hR : Rep w d sv T) (hcn : cnt d T ≤ 1048576) (hN : GRep (Value.int .i64) w nv zs) :
    Calls Tryz.prog 13 #[.agg #[lv, sv], nv] w (TpPost w (tpOk zs ls d T) (tpL zs ls d T) d (tpT zs ls d T)) := by
  obtain ⟨i0, hi0, hz0, hz1, hz2⟩ := info_parts infoLabel
  obtain ⟨la, lc, hv0, hlc, hcm, hcell⟩ := id hL
  obtain ⟨sa, sc, hv1⟩ := id hR.slice
  obtain ⟨ra, rc, hv2, hrl, hrm, hrow⟩ := id hN
  subst hv0 hv1 hv2
  have hrm' : (zs.length : Int) ≤ 9223372036854775807 := by unfold maxLen at hrm; omega
  have A : Below w.heap.size w ((w.alloc (.cells #[.slice la ls.length lc, .slice sa (ln d T) sc] 26)).alloc (.cells #[.slice none 0 0, .slice none 0 0] 26)) := ((Below.refl _ _).alloc (Nat.le_refl _) _).alloc (by simp) _
  have C1 : Hid _ := sProgOk_any (hL.below A) (hR.below A) hcn
  have KR : Hid (∀ wx, Below w.heap.size w wx → Calls Tryz.prog 34 #[.slice ra zs.length rc, .int .i64 3] wx fun e w' => e = .returned (.bool (rowB zs 3)) ∧ w' = wx) := (show ∀ wx, _ from fun wx hb => l14Row_any 3 (hN.below hb))
  have HC : Hid _ := hcell
  have HRC : Hid _ := hrow
  have HR : Hid (∀ wx, Below w.heap.size w wx → Rep wx d (.slice sa (ln d T) sc) T) := (show ∀ wx, _ from fun wx hb => hR.below hb)
  have HN : Hid (∀ wx, (∀ b, b < w.heap.size → wx.heap[b]? = w.heap[b]?) → GRep (Value.int .i64) wx (.slice ra zs.length rc) zs) := (show ∀ wx, _ from fun wx hb => by
    refine ⟨ra, rc, rfl, hrl, hrm, fun i hi => ?_⟩
    obtain ⟨b, off, ha, h0⟩ := hrow i hi
    exact ⟨b, off, ha, (World.cell?_of_block (hb b (World.block_lt_of_cell? _ _ h0))).trans h0⟩)
  have G1 := (C2.new w (.slice la ls.length lc) (.slice sa (ln d T) sc) 26).same (Below.heap_alloc _ (.cells #[.slice none 0 0, .slice none 0 0] 26) _ (by simp))
  have G2 := C2.new (w.alloc (.cells #[.slice la ls.length lc, .slice sa (ln d T) sc] 26)) (.slice none 0 0) (.slice none 0 0) 26
  rw [show (w.alloc (.cells #[.slice la ls.length lc, .slice sa (ln d T) sc] 26)).heap.size = w.heap.size + 1 by simp] at G2
  have hs : ((w.alloc (.cells #[.slice la ls.length lc, .slice sa (ln d T) sc] 26)).alloc (.cells #[.slice none 0 0, .slice none 0 0] 26)).heap.size = w.heap.size + 2 := by simp
  obtain ⟨W0, hW⟩ : ∃ W, (w.alloc (.cells #[.slice la ls.length lc, .slice sa (ln d T) sc] 26)).alloc (.cells #[.slice none 0 0, .slice none 0 0] 26) = W := ⟨_, rfl⟩
  rw [hW] at A C1 G1 G2 hs
  have HW : Hid _ := hW
  have HA : Hid (Below w.heap.size w W0) := A
  have HG1 : Hid (C2 W0 w.heap.size (.slice la ls.length lc) (.slice sa (ln d T) sc)) := G1
  have HG2 : Hid (C2 W0 (w.heap.size + 1) (.slice none 0 0) (.slice none 0 0)) := G2
  clear hL hR hN A G1 G2 hW hcell hrow hrl
  obtain ⟨pb, hpb⟩ : ∃ pb, progB ls d T = pb := ⟨_, rfl⟩
  obtain ⟨rbb, hrb⟩ : ∃ rb, rowB zs 3 = rb := ⟨_, rfl⟩
  have HOK : Hid (tpOk zs ls d T = (pb && rbb)) := (show tpOk zs ls d T = (pb && rbb) by unfold tpOk; rw [hpb, hrb])
  have HLL : Hid (tpL zs ls d T = if (pb && rbb) = true then turnLs zs ls else []) := (show tpL zs ls d T = _ by unfold tpL; rw [HOK.out])
  have HTT : Hid (tpT zs ls d T = if (pb && rbb) = true then mapT (hostF zs) d T else noT d) := (show tpT zs ls d T = _ by unfold tpT; rw [HOK.out])
  rw [HOK.out, HLL.out, HTT.out]
  rw [hpb] at C1
  rw [hrb] at KR
  have HPB : Hid _ := hpb
  have HRB : Hid _ := hrb
  clear hpb hrb HOK HLL HTT
  cases pb
  · rw [Bool.false_and, if_neg (by simp), if_neg (by simp)]
    go_enter Tryz.func13, Tryz.ntmps13
    go_wp2_with fail
    rw [HW.out]
    clear HW
    go_at_call 9; refine Calls.mono C1.out ?_
    rintro e w1 ⟨rfl, hb1⟩
    have HB1 : Hid (Below w.heap.size w w1) := Below.then HA.out hb1 HA.out.size
    have HP1 : Hid (C2 w1 w.heap.size (.slice la ls.length lc) (.slice sa (ln d T) sc)) := HG1.out.same (hb1.block _ (by omega))
    have HZ1 : Hid (C2 w1 (w.heap.size + 1) (.slice none 0 0) (.slice none 0 0)) := HG2.out.same (hb1.block _ (by omega))
    have hs1 : w.heap.size + 1 < w1.heap.size := by have := hb1.size; omega
    clear hb1 C1 HG1 HG2 HA
    obtain ⟨⟨z0, z1⟩, y0, y1⟩ := HZ1.out
    go_wp2
    refine bodyPost_ret (v := .tuple #[.agg #[.slice none 0 0, .slice none 0 0], .bool false]) (by simp [results, Tryz.results13, go_sem, z0, z1]) rfl ?_
    exact TpPost.none rfl rfl rfl (by simpa using (HB1.out.setCell (p := ⟨w.heap.size + 1, 0, none⟩) (by show w.heap.size ≤ w.heap.size + 1; omega) _).setCell (p := ⟨w.heap.size + 1, 1, none⟩) (by show w.heap.size ≤ w.heap.size + 1; omega) _)
  cases rbb
  · rw [Bool.and_false, if_neg (by simp), if_neg (by simp)]
    go_enter Tryz.func13, Tryz.ntmps13
    go_wp2_with fail
    rw [HW.out]
    clear HW
    go_at_call 9; refine Calls.mono C1.out ?_
    rintro e w1 ⟨rfl, hb1⟩
    have HB1 : Hid (Below w.heap.size w w1) := Below.then HA.out hb1 HA.out.size
    have HP1 : Hid (C2 w1 w.heap.size (.slice la ls.length lc) (.slice sa (ln d T) sc)) := HG1.out.same (hb1.block _ (by omega))
    have HZ1 : Hid (C2 w1 (w.heap.size + 1) (.slice none 0 0) (.slice none 0 0)) := HG2.out.same (hb1.block _ (by omega))
    have hs1 : w.heap.size + 1 < w1.heap.size := by have := hb1.size; omega
    clear hb1 C1 HG1 HG2 HA
    obtain ⟨⟨p0, p1⟩, -⟩ := HP1.out
    go_wp2_with fail
    (try go_at_call 34); refine Calls.mono (KR.out _ HB1.out) ?_
    rintro e wq ⟨rfl, hq⟩; rw [hq]; clear hq wq KR
    obtain ⟨⟨z0, z1⟩, y0, y1⟩ := HZ1.out
    go_wp2
    refine bodyPost_ret (v := .tuple #[.agg #[.slice none 0 0, .slice none 0 0], .bool false]) (by simp [results, Tryz.results13, go_sem, z0, z1]) rfl ?_
    exact TpPost.none rfl rfl rfl (by simpa using (HB1.out.setCell (p := ⟨w.heap.size + 1, 0, none⟩) (by show w.heap.size ≤ w.heap.size + 1; omega) _).setCell (p := ⟨w.heap.size + 1, 1, none⟩) (by show w.heap.size ≤ w.heap.size + 1; omega) _)
  rw [Bool.and_self, if_pos rfl, if_pos rfl]
  go_enter Tryz.func13, Tryz.ntmps13
  go_wp2_with fail
  rw [HW.out]
  clear HW
  go_at_call 9; refine Calls.mono C1.out ?_
  rintro e w1 ⟨rfl, hb1⟩
  have HB1 : Hid (Below w.heap.size w w1) := Below.then HA.out hb1 HA.out.size
  have HP1 : Hid (C2 w1 w.heap.size (.slice la ls.length lc) (.slice sa (ln d T) sc)) := HG1.out.same (hb1.block _ (by omega))
  have HZ1 : Hid (C2 w1 (w.heap.size + 1) (.slice none 0 0) (.slice none 0 0)) := HG2.out.same (hb1.block _ (by omega))
  have hs1 : w.heap.size + 1 < w1.heap.size := by have := hb1.size; omega
  clear hb1 C1 HG1 HG2 HA
  obtain ⟨⟨p0, p1⟩, -⟩ := HP1.out
  go_wp2_with fail
  (try go_at_call 34); refine Calls.mono (KR.out _ HB1.out) ?_
  rintro e wq ⟨rfl, hq⟩; rw [hq]; clear hq wq KR
  obtain ⟨hl4, hlb, hst, hc8⟩ := progB4 HPB.out
  have hl4' : (ls.length : Int) ≤ 4 := by omega
  have hlz : (ls.length : Int) ≤ 9223372036854775807 := by omega
  have HLB : Hid (∀ i (hi : i < ls.length), ∃ b off k t, la = some ⟨b, off, none⟩ ∧ b < w.heap.size ∧ w.cell? ⟨b, off + i * 2, none⟩ = some (.int .i64 k) ∧ w.cell? ⟨b, off + i * 2 + 1, none⟩ = some (.int .i64 t) ∧ turnR k zs = turnI k zs ∧ turnR t zs = turnI t zs ∧ turnLs zs (ls.take (i + 1)) = turnLs zs (ls.take i) ++ [(turnI k zs, turnI t zs)]) := (show ∀ i (hi : i < ls.length), _ by
    intro i hi
    obtain ⟨b, off, ha, h0, h1⟩ := HC.out i hi
    obtain ⟨⟨k0, k7⟩, t0, t7⟩ := labs_at hlb i hi
    exact ⟨b, off, _, _, ha, World.block_lt_of_cell? _ _ h0, h0, h1, turnR_yes (inB_iff.2 ⟨k0, k7⟩) HRB.out, turnR_yes (inB_iff.2 ⟨t0, t7⟩) HRB.out, by unfold turnLs; rw [List.take_succ_eq_append_getElem hi, List.map_append]; rfl⟩)
  have A3 : Below w1.heap.size w1 (w1.alloc (.cells #[] 58)) := (Below.refl _ _).alloc (Nat.le_refl _) _
  have CS : Hid _ := l14Hosts_any zs (n := ls.length) ra rc (rowB_len HRB.out) (by rw [rowB_len HRB.out]; omega) d T _ _ (HR.out _ (Below.then HB1.out A3 HB1.out.size)) (by omega) (HN.out _ (fun b hb => (A3.block b (by have := HB1.out.size; omega)).trans (HB1.out.block b hb))) (allP_of d 3 T hst)
  have OR0 := World.ownsRow_made (base := w1.heap.size) (e := 58) (size := 2) w1 #[] 0 (Nat.le_refl _) (by unfold maxLen; omega) (by simp)
  have s3 : (w1.alloc (.cells #[] 58)).heap.size = w1.heap.size + 1 := by simp
  obtain ⟨TT, hTT⟩ : ∃ TT, mapT (hostF zs) d T = TT := ⟨_, rfl⟩
  have HTT : Hid _ := hTT
  rw [hTT]
  obtain ⟨w3, hw3⟩ : ∃ W, w1.alloc (.cells #[] 58) = W := ⟨_, rfl⟩
  rw [hw3] at A3 CS OR0 s3
  have HW3 : Hid _ := hw3
  have HA3 : Hid (Below w1.heap.size w1 w3) := A3
  have q0 := cell_later A3 p0
  have q1 := cell_later A3 p1
  have HQ : Hid (w3.cell? ⟨w.heap.size, 0, none⟩ = some (.slice la ls.length lc) ∧ w3.cell? ⟨w.heap.size, 1, none⟩ = some (.slice sa (ln d T) sc)) := ⟨q0, q1⟩
  clear hw3 hTT A3 hlb hst q0 q1
  go_wp2_with fail
  rw [HW3.out]
  clear HW3 p0 p1
  (try go_at_call 35); refine Calls.mono CS.out ?_
  rintro e w4 ⟨sv', b2, rfl, hb4, o2, r2, n2⟩
  rw [HTT.out] at o2
  obtain ⟨sa', sc', rfl⟩ := o2.slice
  have OR4 : w4.ownsRow w1.heap.size 58 2 (.slice (some ⟨w1.heap.size, 0, none⟩) 0 0) 0 [] := row_below (by simpa using OR0) (hb4.mono (by omega))
  have HO2 : Hid (Own w4 d (.slice sa' (ln d TT) sc') TT b2) := o2
  have HR2 : Hid (∀ b ∈ b2, w1.heap.size < b ∧ b < w4.heap.size) := (show ∀ b ∈ b2, _ from fun b hb => by have := r2 b hb; omega)
  have HN2 : Hid _ := n2
  have B4 : Below w1.heap.size w1 w4 := Below.then HA3.out hb4 HA3.out.size
  have z4 : w1.heap.size < w4.heap.size := by have := hb4.size; omega
  have AO : Below w4.heap.size w4 (w4.alloc (.cells #[.slice (some ⟨w1.heap.size, 0, none⟩) 0 0, .slice sa' (ln d TT) sc'] 26)) := (Below.refl _ _).alloc (Nat.le_refl _) _
  have GO := C2.new w4 (.slice (some ⟨w1.heap.size, 0, none⟩) 0 0) (.slice sa' (ln d TT) sc') 26
  have sO : (w4.alloc (.cells #[.slice (some ⟨w1.heap.size, 0, none⟩) 0 0, .slice sa' (ln d TT) sc'] 26)).heap.size = w4.heap.size + 1 := by simp
  obtain ⟨wO, hwO⟩ : ∃ W, w4.alloc (.cells #[.slice (some ⟨w1.heap.size, 0, none⟩) 0 0, .slice sa' (ln d TT) sc'] 26) = W := ⟨_, rfl⟩
  rw [hwO] at AO GO sO
  have HWO : Hid _ := hwO
  have ORO := row_below OR4 (AO.mono (by omega))
  obtain ⟨OB, hOB⟩ : ∃ n, w4.heap.size = n := ⟨_, rfl⟩
  obtain ⟨GB, hGB⟩ : ∃ n, w1.heap.size = n := ⟨_, rfl⟩
  rw [hOB] at GO sO HR2 z4 AO
  rw [hGB] at GO HR2 ORO z4 hs1
  have HOBE : Hid (w4.heap.size = OB) := hOB
  have HGBE : Hid (w1.heap.size = GB) := hGB
  have HBO : Hid (Below w.heap.size w wO) := Below.then (Below.then HB1.out B4 HB1.out.size) (by rw [hOB]; exact AO) (Below.then HB1.out B4 HB1.out.size).size
  have HPO : Hid (C2 wO w.heap.size (.slice la ls.length lc) (.slice sa (ln d T) sc)) := (HP1.out.same (B4.block _ (by omega))).same (AO.block _ (by omega))
  have HZO : Hid (C2 wO (w.heap.size + 1) (.slice none 0 0) (.slice none 0 0)) := (HZ1.out.same (B4.block _ (by omega))).same (AO.block _ (by omega))
  have HO2O : Hid (Own wO d (.slice sa' (ln d TT) sc') TT b2) := Own.frame (fun b hb => AO.block b (by have := HR2.out b hb; omega)) HO2.out
  have HGO : Hid (C2 wO OB (.slice (some ⟨GB, 0, none⟩) 0 0) (.slice sa' (ln d TT) sc')) := GO
  have HORO : Hid (wO.ownsRow GB 58 2 (.slice (some ⟨GB, 0, none⟩) 0 0) 0 []) := ORO
  have HSO : Hid (wO.heap.size = OB + 1) := sO
  have HNO : Hid (∀ wz : World, (fun wz : World => ∀ b, b < OB → b ≠ GB → wz.heap[b]? = wO.heap[b]?) wz → GRep (Value.int .i64) wz (.slice ra zs.length rc) zs) := (show ∀ wz, _ from fun wz hS => HN.out wz (fun b hb => (hS b (by omega) (by omega)).trans (HBO.out.block b hb)))
  have HLO : Hid (∀ wz : World, (fun wz : World => ∀ b, b < OB → b ≠ GB → wz.heap[b]? = wO.heap[b]?) wz → ∀ b o v, b < w.heap.size → w.cell? ⟨b, o, none⟩ = some v → wz.cell? ⟨b, o, none⟩ = some v) := (show ∀ wz, _ from fun wz hS b o v hb hv => (World.cell?_of_block ((hS b (by omega) (by omega)).trans (HBO.out.block b hb))).trans hv)
  have KT : Hid (∀ (k : Int) (wz : World), (fun wz : World => ∀ b, b < OB → b ≠ GB → wz.heap[b]? = wO.heap[b]?) wz → Calls Tryz.prog 36 #[.int .i64 k, .slice ra zs.length rc] wz fun e w' => e = .returned (.int .i64 (turnR k zs)) ∧ w' = wz) := (show ∀ (k : Int) (wz : World), _ from fun k wz hS => sTurnSet_any k (HNO.out wz hS))
  obtain ⟨q0, q1⟩ := HQ.out
  clear hwO AO GO sO ORO OR4 OR0 o2 r2 n2 B4 hb4 CS HA3 HO2 HP1 HZ1 HN HR HC HRC hOB hGB
  go_wp2_with fail
  rw [HWO.out, HOBE.out, HGBE.out]
  clear HWO q0 q1
  go_loopw [7] (fun j wr => ∃ (i : Nat) (va : Option Addr) (vc : Nat), i ≤ ls.length ∧ j = .int .i64 i ∧ Below w.heap.size w wr ∧ wr.ownsRow GB 58 2 (.slice va i vc) i (lcells (turnLs zs (ls.take i))) ∧ C2 wr OB (.slice va i vc) (.slice sa' (ln d TT) sc') ∧ (fun wz : World => ∀ b, b < OB → b ≠ GB → wz.heap[b]? = wO.heap[b]?) wr ∧ (∀ k, (Value.slice va i vc).ownBlock = some k → k = GB ∨ OB < k) ∧ OB < wr.heap.size) (fun j _ => ls.length - (intOf j).toNat)
  case atStart => exact ⟨0, some ⟨GB, 0, none⟩, 0, by omega, rfl, HBO.out, by simpa [turnLs, lcells] using HORO.out, HGO.out, fun b _ _ => rfl, fun k hk => .inl (by cases hk; rfl), by have := HSO.out; omega⟩
  case round =>
    obtain ⟨i, va, vc, hi, rfl, hbr, hor, hco, hSr, hown, hob⟩ := hrel
    have HBR : Hid (Below w.heap.size w wr) := hbr
    have HOR : Hid (wr.ownsRow GB 58 2 (.slice va i vc) i (lcells (turnLs zs (ls.take i)))) := hor
    have HCO : Hid (C2 wr OB (.slice va i vc) (.slice sa' (ln d TT) sc')) := hco
    have HSR : Hid ((fun wz : World => ∀ b, b < OB → b ≠ GB → wz.heap[b]? = wO.heap[b]?) wr) := hSr
    have HOW : Hid (∀ k, (Value.slice va i vc).ownBlock = some k → k = GB ∨ OB < k) := hown
    obtain ⟨⟨p0, p1⟩, -⟩ := HPO.out.same (hSr w.heap.size (by omega) (by omega))
    by_cases hlt : i < ls.length
    · have i0' : (0 : Int) ≤ (i : Int) := by omega
      have i1' : (i : Int) < (ls.length : Int) := by omega
      obtain ⟨lb, lo, k, t, rfl, hlb, k0, k1, hk, ht, htk⟩ := HLB.out i hlt
      have HTK : Hid _ := htk
      have HK : Hid _ := hk
      have HT : Hid _ := ht
      have HLC : Hid (∀ wz : World, (fun wz : World => ∀ b, b < OB → b ≠ GB → wz.heap[b]? = wO.heap[b]?) wz → wz.cell? ⟨lb, lo + i * 2, none⟩ = some (.int .i64 k) ∧ wz.cell? ⟨lb, lo + i * 2 + 1, none⟩ = some (.int .i64 t)) := (show ∀ wz, _ from fun wz hS => ⟨HLO.out wz hS lb _ _ hlb k0, HLO.out wz hS lb _ _ hlb k1⟩)
      have HPC : Hid (∀ wz : World, (fun wz : World => ∀ b, b < OB → b ≠ GB → wz.heap[b]? = wO.heap[b]?) wz → wz.cell? ⟨w.heap.size, 0, none⟩ = some (.slice (some ⟨lb, lo, none⟩) ls.length lc) ∧ wz.cell? ⟨w.heap.size, 1, none⟩ = some (.slice sa (ln d T) sc)) := (show ∀ wz, _ from fun wz hS => (HPO.out.same (hS w.heap.size (by omega) (by omega))).1)
      clear hbr hor hco hown htk hk ht k0 k1
      go_upto_region 7 with fail
      clear p0 p1
      refine wp_region_held (S := (fun wz : World => ∀ b, b < OB → b ≠ GB → wz.heap[b]? = wO.heap[b]?)) (by kernel_rfl) ?_
      change wpAnyH _ _ _ _ _ _ _ _ (World.drew _)
      have hHeld := (show (fun wz : World => ∀ b, b < OB → b ≠ GB → wz.heap[b]? = wO.heap[b]?) (World.drew wr) from hSr)
      clear hSr
      have XB : Hid (Below w.heap.size w (World.drew wr)) := HBR.out.drew
      have XR : Hid ((World.drew wr).ownsRow GB 58 2 (.slice va i vc) i (lcells (turnLs zs (ls.take i)))) := HOR.out
      have XC : Hid (C2 (World.drew wr) OB (.slice va i vc) (.slice sa' (ln d TT) sc')) := HCO.out
      have hox : OB < (World.drew wr).heap.size := hob
      clear HBR HOR HCO HSR hob
      generalize World.drew wr = wx at hHeld XB XR XC hox ⊢
      refine' wpAnyH_take (i := 0) (v := _) rfl (by kernel_rfl) (by kernel_rfl) (by kernel_rfl) (fun _ _ _ h => h) (Or.inl ⟨by rfl, ?hy1801⟩) hHeld ?hn1801
      case hy1801 => (intro wz hSw; go_simp; first | done | with_reducible rfl)
      try simp only [nrm, Act.put]
      refine' wpAnyH_take (i := 2) (v := _) rfl (by kernel_rfl) (by kernel_rfl) (by kernel_rfl) (fun _ _ _ h => h) (Or.inl ⟨by rfl, ?hy1802⟩) hHeld ?hn1802
      case hy1802 => (intro wz hSw; go_simp; first | done | with_reducible rfl)
      try simp only [nrm, Act.put]
      refine' wpAnyH_take (i := 3) (v := (.slice (some ⟨lb, lo, none⟩) ls.length lc)) rfl (by kernel_rfl) (by kernel_rfl) (by kernel_rfl) (fun _ _ _ h => h) (Or.inl ⟨by rfl, ?hy1803⟩) hHeld ?hn1803
      case hy1803 => (intro wz hSw; have j0 := (HPC.out wz hSw).1; go_simp)
      try simp only [nrm, Act.put]
      refine' wpAnyH_take (i := 4) (v := _) rfl (by kernel_rfl) (by kernel_rfl) (by kernel_rfl) (fun _ _ _ h => h) (Or.inl ⟨by rfl, ?hy1804⟩) hHeld ?hn1804
      case hy1804 => (intro wz hSw; go_simp; first | done | with_reducible rfl)
      try simp only [nrm, Act.put]
      refine' wpAnyH_take (i := 5) (v := _) rfl (by kernel_rfl) (by kernel_rfl) (by kernel_rfl) (fun _ _ _ h => h) (Or.inl ⟨by rfl, ?hy1805⟩) hHeld ?hn1805
      case hy1805 => (intro wz hSw; go_simp; first | done | with_reducible rfl)
      try simp only [nrm, Act.put]
      refine' wpAnyH_take (i := 6) (v := _) rfl (by kernel_rfl) (by kernel_rfl) (by kernel_rfl) (fun _ _ _ h => h) (Or.inl ⟨by rfl, ?hy1806⟩) hHeld ?hn1806
      case hy1806 => (intro wz hSw; go_simp; first | done | with_reducible rfl)
      try simp only [nrm, Act.put]
      refine' wpAnyH_take (i := 7) (v := (.int .i64 k)) rfl (by kernel_rfl) (by kernel_rfl) (by kernel_rfl) (fun _ _ _ h => h) (Or.inl ⟨by rfl, ?hy1807⟩) hHeld ?hn1807
      case hy1807 => (intro wz hSw; have j0 := (HLC.out wz hSw).1; go_simp)
      try simp only [nrm, Act.put]
      refine' wpAnyH_take (i := 8) (v := _) rfl (by kernel_rfl) (by kernel_rfl) (by kernel_rfl) (fun _ _ _ h => h) (Or.inl ⟨by rfl, ?hy1808⟩) hHeld ?hn1808
      case hy1808 => (intro wz hSw; go_simp; first | done | with_reducible rfl)
      try simp only [nrm, Act.put]
      refine' wpAnyH_take (i := 10) (v := _) rfl (by kernel_rfl) (by kernel_rfl) (by kernel_rfl) (fun _ _ _ h => h) (Or.inl ⟨by rfl, ?hy1809⟩) hHeld ?hn1809
      case hy1809 => (intro wz hSw; go_simp; first | done | with_reducible rfl)
      try simp only [nrm, Act.put]
      refine' wpAnyH_take (i := 11) (v := (.slice (some ⟨lb, lo, none⟩) ls.length lc)) rfl (by kernel_rfl) (by kernel_rfl) (by kernel_rfl) (fun _ _ _ h => h) (Or.inl ⟨by rfl, ?hy1810⟩) hHeld ?hn1810
      case hy1810 => (intro wz hSw; have j0 := (HPC.out wz hSw).1; go_simp)
      try simp only [nrm, Act.put]
      refine' wpAnyH_take (i := 12) (v := _) rfl (by kernel_rfl) (by kernel_rfl) (by kernel_rfl) (fun _ _ _ h => h) (Or.inl ⟨by rfl, ?hy1811⟩) hHeld ?hn1811
      case hy1811 => (intro wz hSw; go_simp; first | done | with_reducible rfl)
      try simp only [nrm, Act.put]
      refine' wpAnyH_take (i := 13) (v := _) rfl (by kernel_rfl) (by kernel_rfl) (by kernel_rfl) (fun _ _ _ h => h) (Or.inl ⟨by rfl, ?hy1812⟩) hHeld ?hn1812
      case hy1812 => (intro wz hSw; go_simp; first | done | with_reducible rfl)
      try simp only [nrm, Act.put]
      refine' wpAnyH_take (i := 14) (v := _) rfl (by kernel_rfl) (by kernel_rfl) (by kernel_rfl) (fun _ _ _ h => h) (Or.inl ⟨by rfl, ?hy1813⟩) hHeld ?hn1813
      case hy1813 => (intro wz hSw; go_simp; first | done | with_reducible rfl)
      try simp only [nrm, Act.put]
      refine' wpAnyH_take (i := 15) (v := (.int .i64 t)) rfl (by kernel_rfl) (by kernel_rfl) (by kernel_rfl) (fun _ _ _ h => h) (Or.inl ⟨by rfl, ?hy1814⟩) hHeld ?hn1814
      case hy1814 => (intro wz hSw; have j0 := (HLC.out wz hSw).2; go_simp)
      try simp only [nrm, Act.put]
      refine' wpAnyH_take (i := 16) (v := _) rfl (by kernel_rfl) (by kernel_rfl) (by kernel_rfl) (fun _ _ _ h => h) (Or.inl ⟨by rfl, ?hy1815⟩) hHeld ?hn1815
      case hy1815 => (intro wz hSw; go_simp; first | done | with_reducible rfl)
      try simp only [nrm, Act.put]
      refine wpAnyH_ready (rs := [1, 9]) (by kernel_rfl) (by simp) ?_
      refine AllReadyH.cons rfl (fun K hK => ?_) (AllReadyH.cons rfl (fun K hK => ?_) AllReadyH.nil)
      · obtain ⟨⟨o0, o1⟩, -⟩ := XC.out
        go_simp
        clear o0 o1
        refine hK.out _ _ (hHeld) (fun hHeld => ?_)
        clear hK K
        refine wpAnyH_ready (rs := [9]) (by kernel_rfl) (by simp) ?_
        refine AllReadyH.cons rfl (fun K hK => ?_) AllReadyH.nil
        go_simp
        refine Calls.mono (KT.out k _ hHeld) ?_
        rintro e' wq ⟨rfl, hq⟩
        rw [hq, HK.out]
        clear hq wq
        refine hK.out _ _ (hHeld) (fun hHeld => ?_)
        clear hK K
        refine wpAnyH_ready (rs := [17]) (by kernel_rfl) (by simp) ?_
        refine AllReadyH.cons rfl (fun K hK => ?_) AllReadyH.nil
        go_simp
        refine Calls.mono (KT.out t _ hHeld) ?_
        rintro e' wq ⟨rfl, hq⟩
        rw [hq, HT.out]
        clear hq wq
        refine hK.out _ _ (hHeld) (fun hHeld => ?_)
        clear hK K
        refine' wpAnyH_take (i := 18) (v := _) rfl (by kernel_rfl) (by kernel_rfl) (by kernel_rfl) (fun _ _ _ h => h) (Or.inl ⟨by rfl, ?hy1816⟩) hHeld ?hn1816
        case hy1816 => (intro wz hSw; go_simp; first | done | with_reducible rfl)
        try simp only [nrm, Act.put]
        refine wpAnyH_ready (rs := [19]) (by kernel_rfl) (by simp) ?_
        refine AllReadyH.cons rfl (fun K hK => ?_) AllReadyH.nil
        go_simp
        have AY : Below wx.heap.size wx (wx.alloc (.cells #[.int .i64 (turnI k zs), .int .i64 (turnI t zs)] 58)) := (Below.refl _ _).alloc (Nat.le_refl _) _
        have nwa := cells_new2 wx (.int .i64 (turnI k zs)) (.int .i64 (turnI t zs)) 58 _ rfl
        have sy : (wx.alloc (.cells #[.int .i64 (turnI k zs), .int .i64 (turnI t zs)] 58)).heap.size = wx.heap.size + 1 := by simp
        generalize wx.alloc (.cells #[.int .i64 (turnI k zs), .int .i64 (turnI t zs)] 58) = wy at AY nwa sy ⊢
        have XBy : Hid (Below w.heap.size w wy) := Below.then XB.out AY XB.out.size
        have XRy : Hid (wy.ownsRow GB 58 2 (.slice va i vc) i (lcells (turnLs zs (ls.take i)))) := rowp_frame XR.out (fun b hb => AY.block b (World.ownsRow.lt XR.out b hb).2)
        have XCy : Hid (C2 wy OB (.slice va i vc) (.slice sa' (ln d TT) sc')) := XC.out.same (AY.block _ hox)
        have hqy := (show (fun wz : World => ∀ b, b < OB → b ≠ GB → wz.heap[b]? = wO.heap[b]?) wy from fun b h1 h2 => (AY.block b (by omega)).trans (hHeld b h1 h2))
        clear XB XR XC AY
        have XC : Hid (C2 wy OB (.slice va i vc) (.slice sa' (ln d TT) sc')) := XCy.out
        clear XCy
        refine hK.out _ _ (hqy) (fun hHeld => ?_)
        clear hK K
        refine wpAnyH_ready (rs := [20]) (by kernel_rfl) (by simp) ?_
        refine AllReadyH.cons rfl (fun K hK => ?_) AllReadyH.nil
        refine wp_append_at _ _ _ 23 rfl GB 58 i0 _ 2 16 Tryz.underlying23 hi0 hz0 hz1 hz2 rfl (by decide) _ _ _ rfl XRy.out ⟨wx.heap.size, 0, none⟩ 1 1 [.int .i64 (turnI k zs), .int .i64 (turnI t zs)] rfl rfl nwa (by simp [Value.oneCell']) (by unfold maxLen; omega) (by omega) (by omega) ?_
        intro v5 w5 own5 grow5 nn5 at5
        obtain ⟨va5, vc5, hv5⟩ := rowg_slice own5
        subst hv5
        have XR5 : Hid (w5.ownsRow GB 58 2 (.slice va5 (i + 1) vc5) (i + 1) (lcells (turnLs zs (ls.take (i + 1))))) := (show w5.ownsRow GB 58 2 (.slice va5 (i + 1) vc5) (i + 1) (lcells (turnLs zs (ls.take (i + 1)))) by rw [HTK.out, lcells_app]; exact own5)
        have obx : ∀ k, (Value.slice va i vc).ownBlock = some k → k ≠ OB := fun k hk => by have := HOW.out k hk; omega
        have XB5 : Hid (Below w.heap.size w w5) := XBy.out.grown grow5 XBy.out.size (fun j hj => by have := (World.ownsRow.lt XRy.out j hj).1; omega)
        have XC5 : Hid (C2 w5 OB (.slice va i vc) (.slice sa' (ln d TT) sc')) := XC.out.same (grow5.block OB (by omega) (fun e => obx OB e.symm rfl))
        have XO5 : Hid (∀ k, (Value.slice va5 (i + 1) vc5).ownBlock = some k → k = GB ∨ OB < k) := (show ∀ k, _ from fun k hk => by
          rcases at5 with h | h
          · exact HOW.out k (h ▸ hk)
          · rw [h] at hk; cases hk; exact .inr (by omega))
        have s5 : OB < w5.heap.size := by have := grow5.size; omega
        have hq5 := (show (fun wz : World => ∀ b, b < OB → b ≠ GB → wz.heap[b]? = wO.heap[b]?) w5 from fun b h1 h2 => (grow5.block b (by omega) (fun e => by have := HOW.out b e.symm; omega)).trans (hHeld b h1 h2))
        clear own5 grow5 nn5 at5 XRy XBy XC nwa sy
        refine hK.out _ _ (hq5) (fun hHeld => ?_)
        clear hK K
        refine' wpAnyH_take (i := 21) (v := _) rfl (by kernel_rfl) (by kernel_rfl) (by kernel_rfl) (fun _ _ _ h => h) (Or.inl ⟨by rfl, ?hy1817⟩) hHeld ?hn1817
        case hy1817 => (intro wz hSw; go_simp; first | done | with_reducible rfl)
        try simp only [nrm, Act.put]
        refine wpAnyH_ready (rs := [22]) (by kernel_rfl) (by simp) ?_
        refine AllReadyH.cons rfl (fun K hK => ?_) AllReadyH.nil
        obtain ⟨⟨o0, o1⟩, g0, g1⟩ := XC5.out
        go_simp
        have XC6 : C2 (w5.setCell ⟨OB, 0, none⟩ (.slice va5 (i + 1) vc5)) OB (.slice va5 (i + 1) vc5) (.slice sa' (ln d TT) sc') := C2.set0 _ XC5.out
        have XB6 : Below w.heap.size w (w5.setCell ⟨OB, 0, none⟩ (.slice va5 (i + 1) vc5)) := XB5.out.setCell (p := ⟨OB, 0, none⟩) (by show w.heap.size ≤ OB; omega) _
        have XR6 : (w5.setCell ⟨OB, 0, none⟩ (.slice va5 (i + 1) vc5)).ownsRow GB 58 2 (.slice va5 (i + 1) vc5) (i + 1) (lcells (turnLs zs (ls.take (i + 1)))) := rowp_frame XR5.out (fun b hb => Below.heap_setCell _ _ _ _ (by have := XO5.out b hb; show b ≠ OB; omega))
        have s6 : (w5.setCell ⟨OB, 0, none⟩ (.slice va5 (i + 1) vc5)).heap.size = w5.heap.size := by simp [World.setCell]
        have hq6 := (show (fun wz : World => ∀ b, b < OB → b ≠ GB → wz.heap[b]? = wO.heap[b]?) (w5.setCell ⟨OB, 0, none⟩ (.slice va5 (i + 1) vc5)) from fun b h1 h2 => (Below.heap_setCell _ _ _ _ (by show b ≠ OB; omega)).trans (hHeld b h1 h2))
        clear o0 o1 g0 g1 XC5 XB5 XR5
        generalize w5.setCell ⟨OB, 0, none⟩ (.slice va5 (i + 1) vc5) = w6 at XC6 XB6 XR6 s6 hq6 ⊢
        refine hK.out _ _ (hq6) (fun hHeld => ?_)
        clear hK K
        refine wpAnyH_done (by kernel_rfl) ?_ _
        have XQ : Hid ((fun wz : World => ∀ b, b < OB → b ≠ GB → wz.heap[b]? = wO.heap[b]?) w6) := hHeld
        have YC : Hid _ := XC6
        have YB : Hid _ := XB6
        have YR : Hid _ := XR6
        clear hHeld hq6 XC6 XB6 XR6
        go_wp2
        exact ⟨⟨i + 1, va5, vc5, by omega, by simp, YB.out, YR.out, YC.out, XQ.out, XO5.out, by omega⟩, by simp [intOf]; omega⟩
      · go_simp
        refine Calls.mono (KT.out k _ hHeld) ?_
        rintro e' wq ⟨rfl, hq⟩
        rw [hq, HK.out]
        clear hq wq
        refine hK.out _ _ (hHeld) (fun hHeld => ?_)
        clear hK K
        refine wpAnyH_ready (rs := [1, 17]) (by kernel_rfl) (by simp) ?_
        refine AllReadyH.cons rfl (fun K hK => ?_) (AllReadyH.cons rfl (fun K hK => ?_) AllReadyH.nil)
        · obtain ⟨⟨o0, o1⟩, -⟩ := XC.out
          go_simp
          clear o0 o1
          refine hK.out _ _ (hHeld) (fun hHeld => ?_)
          clear hK K
          refine wpAnyH_ready (rs := [17]) (by kernel_rfl) (by simp) ?_
          refine AllReadyH.cons rfl (fun K hK => ?_) AllReadyH.nil
          go_simp
          refine Calls.mono (KT.out t _ hHeld) ?_
          rintro e' wq ⟨rfl, hq⟩
          rw [hq, HT.out]
          clear hq wq
          refine hK.out _ _ (hHeld) (fun hHeld => ?_)
          clear hK K
          refine' wpAnyH_take (i := 18) (v := _) rfl (by kernel_rfl) (by kernel_rfl) (by kernel_rfl) (fun _ _ _ h => h) (Or.inl ⟨by rfl, ?hy1818⟩) hHeld ?hn1818
          case hy1818 => (intro wz hSw; go_simp; first | done | with_reducible rfl)
          try simp only [nrm, Act.put]
          refine wpAnyH_ready (rs := [19]) (by kernel_rfl) (by simp) ?_
          refine AllReadyH.cons rfl (fun K hK => ?_) AllReadyH.nil
          go_simp
          have AY : Below wx.heap.size wx (wx.alloc (.cells #[.int .i64 (turnI k zs), .int .i64 (turnI t zs)] 58)) := (Below.refl _ _).alloc (Nat.le_refl _) _
          have nwa := cells_new2 wx (.int .i64 (turnI k zs)) (.int .i64 (turnI t zs)) 58 _ rfl
          have sy : (wx.alloc (.cells #[.int .i64 (turnI k zs), .int .i64 (turnI t zs)] 58)).heap.size = wx.heap.size + 1 := by simp
          generalize wx.alloc (.cells #[.int .i64 (turnI k zs), .int .i64 (turnI t zs)] 58) = wy at AY nwa sy ⊢
          have XBy : Hid (Below w.heap.size w wy) := Below.then XB.out AY XB.out.size
          have XRy : Hid (wy.ownsRow GB 58 2 (.slice va i vc) i (lcells (turnLs zs (ls.take i)))) := rowp_frame XR.out (fun b hb => AY.block b (World.ownsRow.lt XR.out b hb).2)
          have XCy : Hid (C2 wy OB (.slice va i vc) (.slice sa' (ln d TT) sc')) := XC.out.same (AY.block _ hox)
          have hqy := (show (fun wz : World => ∀ b, b < OB → b ≠ GB → wz.heap[b]? = wO.heap[b]?) wy from fun b h1 h2 => (AY.block b (by omega)).trans (hHeld b h1 h2))
          clear XB XR XC AY
          have XC : Hid (C2 wy OB (.slice va i vc) (.slice sa' (ln d TT) sc')) := XCy.out
          clear XCy
          refine hK.out _ _ (hqy) (fun hHeld => ?_)
          clear hK K
          refine wpAnyH_ready (rs := [20]) (by kernel_rfl) (by simp) ?_
          refine AllReadyH.cons rfl (fun K hK => ?_) AllReadyH.nil
          refine wp_append_at _ _ _ 23 rfl GB 58 i0 _ 2 16 Tryz.underlying23 hi0 hz0 hz1 hz2 rfl (by decide) _ _ _ rfl XRy.out ⟨wx.heap.size, 0, none⟩ 1 1 [.int .i64 (turnI k zs), .int .i64 (turnI t zs)] rfl rfl nwa (by simp [Value.oneCell']) (by unfold maxLen; omega) (by omega) (by omega) ?_
          intro v5 w5 own5 grow5 nn5 at5
          obtain ⟨va5, vc5, hv5⟩ := rowg_slice own5
          subst hv5
          have XR5 : Hid (w5.ownsRow GB 58 2 (.slice va5 (i + 1) vc5) (i + 1) (lcells (turnLs zs (ls.take (i + 1))))) := (show w5.ownsRow GB 58 2 (.slice va5 (i + 1) vc5) (i + 1) (lcells (turnLs zs (ls.take (i + 1)))) by rw [HTK.out, lcells_app]; exact own5)
          have obx : ∀ k, (Value.slice va i vc).ownBlock = some k → k ≠ OB := fun k hk => by have := HOW.out k hk; omega
          have XB5 : Hid (Below w.heap.size w w5) := XBy.out.grown grow5 XBy.out.size (fun j hj => by have := (World.ownsRow.lt XRy.out j hj).1; omega)
          have XC5 : Hid (C2 w5 OB (.slice va i vc) (.slice sa' (ln d TT) sc')) := XC.out.same (grow5.block OB (by omega) (fun e => obx OB e.symm rfl))
          have XO5 : Hid (∀ k, (Value.slice va5 (i + 1) vc5).ownBlock = some k → k = GB ∨ OB < k) := (show ∀ k, _ from fun k hk => by
            rcases at5 with h | h
            · exact HOW.out k (h ▸ hk)
            · rw [h] at hk; cases hk; exact .inr (by omega))
          have s5 : OB < w5.heap.size := by have := grow5.size; omega
          have hq5 := (show (fun wz : World => ∀ b, b < OB → b ≠ GB → wz.heap[b]? = wO.heap[b]?) w5 from fun b h1 h2 => (grow5.block b (by omega) (fun e => by have := HOW.out b e.symm; omega)).trans (hHeld b h1 h2))
          clear own5 grow5 nn5 at5 XRy XBy XC nwa sy
          refine hK.out _ _ (hq5) (fun hHeld => ?_)
          clear hK K
          refine' wpAnyH_take (i := 21) (v := _) rfl (by kernel_rfl) (by kernel_rfl) (by kernel_rfl) (fun _ _ _ h => h) (Or.inl ⟨by rfl, ?hy1819⟩) hHeld ?hn1819
          case hy1819 => (intro wz hSw; go_simp; first | done | with_reducible rfl)
          try simp only [nrm, Act.put]
          refine wpAnyH_ready (rs := [22]) (by kernel_rfl) (by simp) ?_
          refine AllReadyH.cons rfl (fun K hK => ?_) AllReadyH.nil
          obtain ⟨⟨o0, o1⟩, g0, g1⟩ := XC5.out
          go_simp
          have XC6 : C2 (w5.setCell ⟨OB, 0, none⟩ (.slice va5 (i + 1) vc5)) OB (.slice va5 (i + 1) vc5) (.slice sa' (ln d TT) sc') := C2.set0 _ XC5.out
          have XB6 : Below w.heap.size w (w5.setCell ⟨OB, 0, none⟩ (.slice va5 (i + 1) vc5)) := XB5.out.setCell (p := ⟨OB, 0, none⟩) (by show w.heap.size ≤ OB; omega) _
          have XR6 : (w5.setCell ⟨OB, 0, none⟩ (.slice va5 (i + 1) vc5)).ownsRow GB 58 2 (.slice va5 (i + 1) vc5) (i + 1) (lcells (turnLs zs (ls.take (i + 1)))) := rowp_frame XR5.out (fun b hb => Below.heap_setCell _ _ _ _ (by have := XO5.out b hb; show b ≠ OB; omega))
          have s6 : (w5.setCell ⟨OB, 0, none⟩ (.slice va5 (i + 1) vc5)).heap.size = w5.heap.size := by simp [World.setCell]
          have hq6 := (show (fun wz : World => ∀ b, b < OB → b ≠ GB → wz.heap[b]? = wO.heap[b]?) (w5.setCell ⟨OB, 0, none⟩ (.slice va5 (i + 1) vc5)) from fun b h1 h2 => (Below.heap_setCell _ _ _ _ (by show b ≠ OB; omega)).trans (hHeld b h1 h2))
          clear o0 o1 g0 g1 XC5 XB5 XR5
          generalize w5.setCell ⟨OB, 0, none⟩ (.slice va5 (i + 1) vc5) = w6 at XC6 XB6 XR6 s6 hq6 ⊢
          refine hK.out _ _ (hq6) (fun hHeld => ?_)
          clear hK K
          refine wpAnyH_done (by kernel_rfl) ?_ _
          have XQ : Hid ((fun wz : World => ∀ b, b < OB → b ≠ GB → wz.heap[b]? = wO.heap[b]?) w6) := hHeld
          have YC : Hid _ := XC6
          have YB : Hid _ := XB6
          have YR : Hid _ := XR6
          clear hHeld hq6 XC6 XB6 XR6
          go_wp2
          exact ⟨⟨i + 1, va5, vc5, by omega, by simp, YB.out, YR.out, YC.out, XQ.out, XO5.out, by omega⟩, by simp [intOf]; omega⟩
        · go_simp
          refine Calls.mono (KT.out t _ hHeld) ?_
          rintro e' wq ⟨rfl, hq⟩
          rw [hq, HT.out]
          clear hq wq
          refine hK.out _ _ (hHeld) (fun hHeld => ?_)
          clear hK K
          refine' wpAnyH_take (i := 18) (v := _) rfl (by kernel_rfl) (by kernel_rfl) (by kernel_rfl) (fun _ _ _ h => h) (Or.inl ⟨by rfl, ?hy1820⟩) hHeld ?hn1820
          case hy1820 => (intro wz hSw; go_simp; first | done | with_reducible rfl)
          try simp only [nrm, Act.put]
          refine wpAnyH_ready (rs := [1, 19]) (by kernel_rfl) (by simp) ?_
          refine AllReadyH.cons rfl (fun K hK => ?_) (AllReadyH.cons rfl (fun K hK => ?_) AllReadyH.nil)
          · obtain ⟨⟨o0, o1⟩, -⟩ := XC.out
            go_simp
            clear o0 o1
            refine hK.out _ _ (hHeld) (fun hHeld => ?_)
            clear hK K
            refine wpAnyH_ready (rs := [19]) (by kernel_rfl) (by simp) ?_
            refine AllReadyH.cons rfl (fun K hK => ?_) AllReadyH.nil
            go_simp
            have AY : Below wx.heap.size wx (wx.alloc (.cells #[.int .i64 (turnI k zs), .int .i64 (turnI t zs)] 58)) := (Below.refl _ _).alloc (Nat.le_refl _) _
            have nwa := cells_new2 wx (.int .i64 (turnI k zs)) (.int .i64 (turnI t zs)) 58 _ rfl
            have sy : (wx.alloc (.cells #[.int .i64 (turnI k zs), .int .i64 (turnI t zs)] 58)).heap.size = wx.heap.size + 1 := by simp
            generalize wx.alloc (.cells #[.int .i64 (turnI k zs), .int .i64 (turnI t zs)] 58) = wy at AY nwa sy ⊢
            have XBy : Hid (Below w.heap.size w wy) := Below.then XB.out AY XB.out.size
            have XRy : Hid (wy.ownsRow GB 58 2 (.slice va i vc) i (lcells (turnLs zs (ls.take i)))) := rowp_frame XR.out (fun b hb => AY.block b (World.ownsRow.lt XR.out b hb).2)
            have XCy : Hid (C2 wy OB (.slice va i vc) (.slice sa' (ln d TT) sc')) := XC.out.same (AY.block _ hox)
            have hqy := (show (fun wz : World => ∀ b, b < OB → b ≠ GB → wz.heap[b]? = wO.heap[b]?) wy from fun b h1 h2 => (AY.block b (by omega)).trans (hHeld b h1 h2))
            clear XB XR XC AY
            have XC : Hid (C2 wy OB (.slice va i vc) (.slice sa' (ln d TT) sc')) := XCy.out
            clear XCy
            refine hK.out _ _ (hqy) (fun hHeld => ?_)
            clear hK K
            refine wpAnyH_ready (rs := [20]) (by kernel_rfl) (by simp) ?_
            refine AllReadyH.cons rfl (fun K hK => ?_) AllReadyH.nil
            refine wp_append_at _ _ _ 23 rfl GB 58 i0 _ 2 16 Tryz.underlying23 hi0 hz0 hz1 hz2 rfl (by decide) _ _ _ rfl XRy.out ⟨wx.heap.size, 0, none⟩ 1 1 [.int .i64 (turnI k zs), .int .i64 (turnI t zs)] rfl rfl nwa (by simp [Value.oneCell']) (by unfold maxLen; omega) (by omega) (by omega) ?_
            intro v5 w5 own5 grow5 nn5 at5
            obtain ⟨va5, vc5, hv5⟩ := rowg_slice own5
            subst hv5
            have XR5 : Hid (w5.ownsRow GB 58 2 (.slice va5 (i + 1) vc5) (i + 1) (lcells (turnLs zs (ls.take (i + 1))))) := (show w5.ownsRow GB 58 2 (.slice va5 (i + 1) vc5) (i + 1) (lcells (turnLs zs (ls.take (i + 1)))) by rw [HTK.out, lcells_app]; exact own5)
            have obx : ∀ k, (Value.slice va i vc).ownBlock = some k → k ≠ OB := fun k hk => by have := HOW.out k hk; omega
            have XB5 : Hid (Below w.heap.size w w5) := XBy.out.grown grow5 XBy.out.size (fun j hj => by have := (World.ownsRow.lt XRy.out j hj).1; omega)
            have XC5 : Hid (C2 w5 OB (.slice va i vc) (.slice sa' (ln d TT) sc')) := XC.out.same (grow5.block OB (by omega) (fun e => obx OB e.symm rfl))
            have XO5 : Hid (∀ k, (Value.slice va5 (i + 1) vc5).ownBlock = some k → k = GB ∨ OB < k) := (show ∀ k, _ from fun k hk => by
              rcases at5 with h | h
              · exact HOW.out k (h ▸ hk)
              · rw [h] at hk; cases hk; exact .inr (by omega))
            have s5 : OB < w5.heap.size := by have := grow5.size; omega
            have hq5 := (show (fun wz : World => ∀ b, b < OB → b ≠ GB → wz.heap[b]? = wO.heap[b]?) w5 from fun b h1 h2 => (grow5.block b (by omega) (fun e => by have := HOW.out b e.symm; omega)).trans (hHeld b h1 h2))
            clear own5 grow5 nn5 at5 XRy XBy XC nwa sy
            refine hK.out _ _ (hq5) (fun hHeld => ?_)
            clear hK K
            refine' wpAnyH_take (i := 21) (v := _) rfl (by kernel_rfl) (by kernel_rfl) (by kernel_rfl) (fun _ _ _ h => h) (Or.inl ⟨by rfl, ?hy1821⟩) hHeld ?hn1821
            case hy1821 => (intro wz hSw; go_simp; first | done | with_reducible rfl)
            try simp only [nrm, Act.put]
            refine wpAnyH_ready (rs := [22]) (by kernel_rfl) (by simp) ?_
            refine AllReadyH.cons rfl (fun K hK => ?_) AllReadyH.nil
            obtain ⟨⟨o0, o1⟩, g0, g1⟩ := XC5.out
            go_simp
            have XC6 : C2 (w5.setCell ⟨OB, 0, none⟩ (.slice va5 (i + 1) vc5)) OB (.slice va5 (i + 1) vc5) (.slice sa' (ln d TT) sc') := C2.set0 _ XC5.out
            have XB6 : Below w.heap.size w (w5.setCell ⟨OB, 0, none⟩ (.slice va5 (i + 1) vc5)) := XB5.out.setCell (p := ⟨OB, 0, none⟩) (by show w.heap.size ≤ OB; omega) _
            have XR6 : (w5.setCell ⟨OB, 0, none⟩ (.slice va5 (i + 1) vc5)).ownsRow GB 58 2 (.slice va5 (i + 1) vc5) (i + 1) (lcells (turnLs zs (ls.take (i + 1)))) := rowp_frame XR5.out (fun b hb => Below.heap_setCell _ _ _ _ (by have := XO5.out b hb; show b ≠ OB; omega))
            have s6 : (w5.setCell ⟨OB, 0, none⟩ (.slice va5 (i + 1) vc5)).heap.size = w5.heap.size := by simp [World.setCell]
            have hq6 := (show (fun wz : World => ∀ b, b < OB → b ≠ GB → wz.heap[b]? = wO.heap[b]?) (w5.setCell ⟨OB, 0, none⟩ (.slice va5 (i + 1) vc5)) from fun b h1 h2 => (Below.heap_setCell _ _ _ _ (by show b ≠ OB; omega)).trans (hHeld b h1 h2))
            clear o0 o1 g0 g1 XC5 XB5 XR5
            generalize w5.setCell ⟨OB, 0, none⟩ (.slice va5 (i + 1) vc5) = w6 at XC6 XB6 XR6 s6 hq6 ⊢
            refine hK.out _ _ (hq6) (fun hHeld => ?_)
            clear hK K
            refine wpAnyH_done (by kernel_rfl) ?_ _
            have XQ : Hid ((fun wz : World => ∀ b, b < OB → b ≠ GB → wz.heap[b]? = wO.heap[b]?) w6) := hHeld
            have YC : Hid _ := XC6
            have YB : Hid _ := XB6
            have YR : Hid _ := XR6
            clear hHeld hq6 XC6 XB6 XR6
            go_wp2
            exact ⟨⟨i + 1, va5, vc5, by omega, by simp, YB.out, YR.out, YC.out, XQ.out, XO5.out, by omega⟩, by simp [intOf]; omega⟩
          · go_simp
            have AY : Below wx.heap.size wx (wx.alloc (.cells #[.int .i64 (turnI k zs), .int .i64 (turnI t zs)] 58)) := (Below.refl _ _).alloc (Nat.le_refl _) _
            have nwa := cells_new2 wx (.int .i64 (turnI k zs)) (.int .i64 (turnI t zs)) 58 _ rfl
            have sy : (wx.alloc (.cells #[.int .i64 (turnI k zs), .int .i64 (turnI t zs)] 58)).heap.size = wx.heap.size + 1 := by simp
            generalize wx.alloc (.cells #[.int .i64 (turnI k zs), .int .i64 (turnI t zs)] 58) = wy at AY nwa sy ⊢
            have XBy : Hid (Below w.heap.size w wy) := Below.then XB.out AY XB.out.size
            have XRy : Hid (wy.ownsRow GB 58 2 (.slice va i vc) i (lcells (turnLs zs (ls.take i)))) := rowp_frame XR.out (fun b hb => AY.block b (World.ownsRow.lt XR.out b hb).2)
            have XCy : Hid (C2 wy OB (.slice va i vc) (.slice sa' (ln d TT) sc')) := XC.out.same (AY.block _ hox)
            have hqy := (show (fun wz : World => ∀ b, b < OB → b ≠ GB → wz.heap[b]? = wO.heap[b]?) wy from fun b h1 h2 => (AY.block b (by omega)).trans (hHeld b h1 h2))
            clear XB XR XC AY
            have XC : Hid (C2 wy OB (.slice va i vc) (.slice sa' (ln d TT) sc')) := XCy.out
            clear XCy
            refine hK.out _ _ (hqy) (fun hHeld => ?_)
            clear hK K
            refine wpAnyH_ready (rs := [1]) (by kernel_rfl) (by simp) ?_
            refine AllReadyH.cons rfl (fun K hK => ?_) AllReadyH.nil
            obtain ⟨⟨o0, o1⟩, -⟩ := XC.out
            go_simp
            clear o0 o1
            refine hK.out _ _ (hHeld) (fun hHeld => ?_)
            clear hK K
            refine wpAnyH_ready (rs := [20]) (by kernel_rfl) (by simp) ?_
            refine AllReadyH.cons rfl (fun K hK => ?_) AllReadyH.nil
            refine wp_append_at _ _ _ 23 rfl GB 58 i0 _ 2 16 Tryz.underlying23 hi0 hz0 hz1 hz2 rfl (by decide) _ _ _ rfl XRy.out ⟨wx.heap.size, 0, none⟩ 1 1 [.int .i64 (turnI k zs), .int .i64 (turnI t zs)] rfl rfl nwa (by simp [Value.oneCell']) (by unfold maxLen; omega) (by omega) (by omega) ?_
            intro v5 w5 own5 grow5 nn5 at5
            obtain ⟨va5, vc5, hv5⟩ := rowg_slice own5
            subst hv5
            have XR5 : Hid (w5.ownsRow GB 58 2 (.slice va5 (i + 1) vc5) (i + 1) (lcells (turnLs zs (ls.take (i + 1))))) := (show w5.ownsRow GB 58 2 (.slice va5 (i + 1) vc5) (i + 1) (lcells (turnLs zs (ls.take (i + 1)))) by rw [HTK.out, lcells_app]; exact own5)
            have obx : ∀ k, (Value.slice va i vc).ownBlock = some k → k ≠ OB := fun k hk => by have := HOW.out k hk; omega
            have XB5 : Hid (Below w.heap.size w w5) := XBy.out.grown grow5 XBy.out.size (fun j hj => by have := (World.ownsRow.lt XRy.out j hj).1; omega)
            have XC5 : Hid (C2 w5 OB (.slice va i vc) (.slice sa' (ln d TT) sc')) := XC.out.same (grow5.block OB (by omega) (fun e => obx OB e.symm rfl))
            have XO5 : Hid (∀ k, (Value.slice va5 (i + 1) vc5).ownBlock = some k → k = GB ∨ OB < k) := (show ∀ k, _ from fun k hk => by
              rcases at5 with h | h
              · exact HOW.out k (h ▸ hk)
              · rw [h] at hk; cases hk; exact .inr (by omega))
            have s5 : OB < w5.heap.size := by have := grow5.size; omega
            have hq5 := (show (fun wz : World => ∀ b, b < OB → b ≠ GB → wz.heap[b]? = wO.heap[b]?) w5 from fun b h1 h2 => (grow5.block b (by omega) (fun e => by have := HOW.out b e.symm; omega)).trans (hHeld b h1 h2))
            clear own5 grow5 nn5 at5 XRy XBy XC nwa sy
            refine hK.out _ _ (hq5) (fun hHeld => ?_)
            clear hK K
            refine' wpAnyH_take (i := 21) (v := _) rfl (by kernel_rfl) (by kernel_rfl) (by kernel_rfl) (fun _ _ _ h => h) (Or.inl ⟨by rfl, ?hy1822⟩) hHeld ?hn1822
            case hy1822 => (intro wz hSw; go_simp; first | done | with_reducible rfl)
            try simp only [nrm, Act.put]
            refine wpAnyH_ready (rs := [22]) (by kernel_rfl) (by simp) ?_
            refine AllReadyH.cons rfl (fun K hK => ?_) AllReadyH.nil
            obtain ⟨⟨o0, o1⟩, g0, g1⟩ := XC5.out
            go_simp
            have XC6 : C2 (w5.setCell ⟨OB, 0, none⟩ (.slice va5 (i + 1) vc5)) OB (.slice va5 (i + 1) vc5) (.slice sa' (ln d TT) sc') := C2.set0 _ XC5.out
            have XB6 : Below w.heap.size w (w5.setCell ⟨OB, 0, none⟩ (.slice va5 (i + 1) vc5)) := XB5.out.setCell (p := ⟨OB, 0, none⟩) (by show w.heap.size ≤ OB; omega) _
            have XR6 : (w5.setCell ⟨OB, 0, none⟩ (.slice va5 (i + 1) vc5)).ownsRow GB 58 2 (.slice va5 (i + 1) vc5) (i + 1) (lcells (turnLs zs (ls.take (i + 1)))) := rowp_frame XR5.out (fun b hb => Below.heap_setCell _ _ _ _ (by have := XO5.out b hb; show b ≠ OB; omega))
            have s6 : (w5.setCell ⟨OB, 0, none⟩ (.slice va5 (i + 1) vc5)).heap.size = w5.heap.size := by simp [World.setCell]
            have hq6 := (show (fun wz : World => ∀ b, b < OB → b ≠ GB → wz.heap[b]? = wO.heap[b]?) (w5.setCell ⟨OB, 0, none⟩ (.slice va5 (i + 1) vc5)) from fun b h1 h2 => (Below.heap_setCell _ _ _ _ (by show b ≠ OB; omega)).trans (hHeld b h1 h2))
            clear o0 o1 g0 g1 XC5 XB5 XR5
            generalize w5.setCell ⟨OB, 0, none⟩ (.slice va5 (i + 1) vc5) = w6 at XC6 XB6 XR6 s6 hq6 ⊢
            refine hK.out _ _ (hq6) (fun hHeld => ?_)
            clear hK K
            refine wpAnyH_done (by kernel_rfl) ?_ _
            have XQ : Hid ((fun wz : World => ∀ b, b < OB → b ≠ GB → wz.heap[b]? = wO.heap[b]?) w6) := hHeld
            have YC : Hid _ := XC6
            have YB : Hid _ := XB6
            have YR : Hid _ := XR6
            clear hHeld hq6 XC6 XB6 XR6
            go_wp2
            exact ⟨⟨i + 1, va5, vc5, by omega, by simp, YB.out, YR.out, YC.out, XQ.out, XO5.out, by omega⟩, by simp [intOf]; omega⟩
    · have hie : i = ls.length := by omega
      subst hie
      rw [List.take_length] at HOR
      obtain ⟨⟨z0, z1⟩, y0, y1⟩ := HZO.out.same (hSr (w.heap.size + 1) (by omega) (by omega))
      obtain ⟨⟨o0, o1⟩, -⟩ := hco
      have ST0 := set_two0 (v0 := .slice va ls.length vc) (v1 := .slice sa' (ln d TT) sc') z0 z1
      have ST1 := set_two1 (v0 := .slice va ls.length vc) (v1 := .slice sa' (ln d TT) sc') z0 z1
      clear hbr hor hSr hown
      go_wp2
      refine bodyPost_ret (v := .tuple #[.agg #[.slice va ls.length vc, .slice sa' (ln d TT) sc'], .bool true]) (by simp [results, Tryz.results13, go_sem, ST0, ST1]) rfl ?_
      have hne : ∀ b, b ≠ w.heap.size + 1 → ((wr.setCell ⟨w.heap.size + 1, 0, none⟩ (.slice va ls.length vc)).setCell ⟨w.heap.size + 1, 1, none⟩ (.slice sa' (ln d TT) sc')).heap[b]? = wr.heap[b]? := fun b hb => (Below.heap_setCell _ _ _ _ hb).trans (Below.heap_setCell _ _ _ _ hb)
      have sF : ((wr.setCell ⟨w.heap.size + 1, 0, none⟩ (.slice va ls.length vc)).setCell ⟨w.heap.size + 1, 1, none⟩ (.slice sa' (ln d TT) sc')).heap.size = wr.heap.size := by simp [World.setCell]
      obtain ⟨b1, ol, ob⟩ := row_lown (by rw [turnLs_len]; exact HOR.out)
      have r1 : ∀ b ∈ b1, (b = GB ∨ OB < b) ∧ b < wr.heap.size := fun b hb => ⟨HOW.out b (ob b hb), (World.ownsRow.lt HOR.out b (ob b hb)).2⟩
      have r2 : ∀ b ∈ b2, GB < b ∧ b < OB := HR2.out
      refine ⟨_, _, b1, b2, rfl, (HBR.out.setCell (p := ⟨w.heap.size + 1, 0, none⟩) (by show w.heap.size ≤ w.heap.size + 1; omega) _).setCell (p := ⟨w.heap.size + 1, 1, none⟩) (by show w.heap.size ≤ w.heap.size + 1; omega) _, LOwn.frame (fun b hb => hne b (by have := r1 b hb; omega)) ol, Own.frame (fun b hb => (hne b (by have := r2 b hb; omega)).trans (HSR.out b (by have := r2 b hb; omega) (by have := r2 b hb; omega))) (by rw [HTT.out]; exact HO2O.out), ?_, HN2.out, ?_⟩
      · intro b hb
        rw [sF]
        rcases List.mem_append.1 hb with hb | hb
        · have := r1 b hb; omega
        · have := r2 b hb; omega
      · intro b hb hb'
        have := r1 b hb
        have := r2 b hb'
        omega

end Go.Proofs.YtkgblkbgebpejaaGreatDoor
