/- A turned program is fine just if it was: the law, walked. -/
import Derived.Test.YtkgblkbgebpejaaGreatDoorVtTpi
import Derived.Test.YtkgblkbgebpejaaGreatDoorVtTps
import Derived.Test.YtkgblkbgebpejaaGreatDoorVtTlw
import Derived.Test.YtkgblkbgebpejaaGreatDoorVtTmz
import Derived.Test.YtkgblkbgebpejaaGreatDoorVtItw
import Derived.Test.YtkgblkbgebpejaaGreatDoorVtTmy
import Derived.Deep.RegionHeld3
import Derived.Deep.DrawnRows
namespace Go.Proofs.YtkgblkbgebpejaaGreatDoor
open Go.RowKit
set_option linter.unusedSimpArgs false
set_option linter.unusedVariables false
attribute [local go_sem ↓] Go.wp_at_zero Go.wp_at_succ
attribute [local go_sem] World.cell?_alloc_some

set_option maxHeartbeats 16000000 in
set_option maxRecDepth 20000 in
theorem fnTurnType_walk (a0 : Option Addr) (len0 cap0 : Nat) (z0 : List Int) (w : World) (s0 s1 : Addr) (hg : Gd w s0 s1) (h0 : IsRow .u8 w a0 len0 cap0 z0) :
    Calls Tryz.prog 4 #[.slice a0 len0 cap0] w fun e w' => e = .returned (.bool true) ∧ Below w.heap.size w w' := by
  by_cases hl0 : (1048576 : Int) < (len0 : Int)
  · go_enter Tryz.func4, Tryz.ntmps4
    go_wp2
    go_ret
    exact ⟨rfl, Below.refl _ _⟩
  have C1 : Hid _ := drawTurnProg_any w a0 len0 cap0 z0 h0
  have HGD : Hid (∀ wz, Below w.heap.size w wz → Gd wz s0 s1) := (show ∀ wz, _ from fun wz hb => hg.below hb)
  clear h0 hg
  go_enter Tryz.func4, Tryz.ntmps4
  go_wp2_with fail
  go_at_call 12; refine Calls.mono C1.out ?_
  rintro e w1 ⟨la, sa, lc, sc, ls, d, l, zs, g, nc, rfl, hL, hR, hG, hb1, ll, cn, zl⟩
  have HB1 : Hid (Below w.heap.size w w1) := hb1
  have A2 : Below w1.heap.size w1 (w1.alloc (.cells #[.slice la ls.length lc, .slice sa (ln (d + 1) (l : List (Pay × Tr d × Tr d))) sc] 26)) := (Below.refl _ _).alloc (Nat.le_refl _) _
  have G2 := C2.new w1 (.slice la ls.length lc) (.slice sa (ln (d + 1) (l : List (Pay × Tr d × Tr d))) sc) 26
  obtain ⟨w2, hw2⟩ : ∃ W, w1.alloc (.cells #[.slice la ls.length lc, .slice sa (ln (d + 1) (l : List (Pay × Tr d × Tr d))) sc] 26) = W := ⟨_, rfl⟩
  rw [hw2] at A2 G2
  have HW2 : Hid _ := hw2
  have K2 : Hid _ := sTurnProg_any (hL.below A2) (hR.below A2) (by omega) (hG.below A2)
  have HRR : Hid (∀ wz, Below w1.heap.size w1 wz → LRep wz (.slice la ls.length lc) ls ∧ Rep wz (d + 1) (.slice sa (ln (d + 1) (l : List (Pay × Tr d × Tr d))) sc) (l : List (Pay × Tr d × Tr d)) ∧ GRep (Value.int .i64) wz (.slice (some ⟨g, 0, none⟩) zs.length nc) zs) := (show ∀ wz, _ from fun wz hb => ⟨hL.below hb, hR.below hb, hG.below hb⟩)
  have HG2 : Hid (C2 w2 w1.heap.size (.slice la ls.length lc) (.slice sa (ln (d + 1) (l : List (Pay × Tr d × Tr d))) sc)) := G2
  have HA2 : Hid (Below w1.heap.size w1 w2) := A2
  obtain ⟨okb, hok⟩ : ∃ x, tpOk zs ls (d + 1) (l : List (Pay × Tr d × Tr d)) = x := ⟨_, rfl⟩
  obtain ⟨LN, hLN⟩ : ∃ x, tpL zs ls (d + 1) (l : List (Pay × Tr d × Tr d)) = x := ⟨_, rfl⟩
  obtain ⟨TN, hTN⟩ : ∃ x, tpT zs ls (d + 1) (l : List (Pay × Tr d × Tr d)) = x := ⟨_, rfl⟩
  rw [hok, hLN, hTN] at K2
  have HOK : Hid _ := hok
  have HLN : Hid _ := hLN
  have HTN : Hid _ := hTN
  obtain ⟨⟨p0, p1⟩, -⟩ := G2
  clear hok hLN hTN hw2 A2 hL hR hG hb1 C1
  go_wp2_with fail
  rw [HW2.out]
  clear HW2
  (try go_at_call 13); refine Calls.mono K2.out ?_
  rintro e w3 ⟨vwl, vws, c1, c2, rfl, hb3, olw, osw, -, -, -⟩
  obtain ⟨wla, wlc, rfl, -⟩ := id olw.rep
  obtain ⟨wsa, wsc, rfl⟩ := osw.slice
  have HWW : Hid (∀ wz, Below w3.heap.size w3 wz → LRep wz (.slice wla LN.length wlc) LN ∧ Rep wz (d + 1) (.slice wsa (ln (d + 1) TN) wsc) TN) := (show ∀ wz, _ from fun wz hb => ⟨olw.rep.below hb, osw.rep.below hb⟩)
  have HG3 : Hid (C2 w3 w1.heap.size (.slice la ls.length lc) (.slice sa (ln (d + 1) (l : List (Pay × Tr d × Tr d))) sc)) := C2.same HG2.out (hb3.block _ (World.block_lt_of_cell? _ _ HG2.out.1.1))
  have HB13 : Hid (Below w1.heap.size w1 w3) := Below.then HA2.out hb3 HA2.out.size
  have A4 : Below w3.heap.size w3 (w3.alloc (.cells #[.slice wla LN.length wlc, .slice wsa (ln (d + 1) TN) wsc] 26)) := (Below.refl _ _).alloc (Nat.le_refl _) _
  have G4 := C2.new w3 (.slice wla LN.length wlc) (.slice wsa (ln (d + 1) TN) wsc) 26
  obtain ⟨w4, hw4⟩ : ∃ W, w3.alloc (.cells #[.slice wla LN.length wlc, .slice wsa (ln (d + 1) TN) wsc] 26) = W := ⟨_, rfl⟩
  rw [hw4] at A4 G4
  have HW4 : Hid _ := hw4
  have HA4 : Hid (Below w3.heap.size w3 w4) := A4
  have HB14 : Hid (Below w1.heap.size w1 w4) := Below.then HB13.out A4 HB13.out.size
  have K4 : Hid _ := turnProg_any (HRR.out _ HB14.out).1 (HRR.out _ HB14.out).2.1 (HRR.out _ HB14.out).2.2
  rw [HOK.out, HLN.out, HTN.out] at K4
  have HG4 : Hid (C2 w4 w3.heap.size (.slice wla LN.length wlc) (.slice wsa (ln (d + 1) TN) wsc)) := G4
  replace p0 := cell_later hb3 p0
  replace p1 := cell_later hb3 p1
  clear hw4 A4 G4 hb3 olw osw K2 HG2 HA2
  go_wp2_with fail
  rw [HW4.out]
  clear HW4 p0 p1
  (try go_at_call 14); refine Calls.mono K4.out ?_
  rintro e w5 ⟨vql, vqs, c3, c4, rfl, hb5, olq, osq, -, -, -⟩
  obtain ⟨qla, qlc, rfl, -⟩ := id olq.rep
  obtain ⟨qsa, qsc, rfl⟩ := osq.slice
  have A6 : Below w5.heap.size w5 (w5.alloc (.cells #[.slice qla LN.length qlc, .slice qsa (ln (d + 1) TN) qsc] 26)) := (Below.refl _ _).alloc (Nat.le_refl _) _
  have G6 := C2.new w5 (.slice qla LN.length qlc) (.slice qsa (ln (d + 1) TN) qsc) 26
  obtain ⟨w6, hw6⟩ : ∃ W, w5.alloc (.cells #[.slice qla LN.length qlc, .slice qsa (ln (d + 1) TN) qsc] 26) = W := ⟨_, rfl⟩
  rw [hw6] at A6 G6
  have HW6 : Hid _ := hw6
  have HB16 : Hid (Below w1.heap.size w1 w6) := Below.then (Below.then HB14.out hb5 HB14.out.size) A6 (Below.then HB14.out hb5 HB14.out.size).size
  have HB36 : Hid (Below w3.heap.size w3 w6) := Below.then (Below.then HA4.out hb5 HA4.out.size) A6 (Below.then HA4.out hb5 HA4.out.size).size
  have HB46 : Hid (Below w4.heap.size w4 w6) := Below.then hb5 A6 hb5.size
  have HGP : Hid (∀ wz, Below w6.heap.size w6 wz → (wz.cell? ⟨w1.heap.size, 0, none⟩ = some (.slice la ls.length lc) ∧ wz.cell? ⟨w1.heap.size, 1, none⟩ = some (.slice sa (ln (d + 1) (l : List (Pay × Tr d × Tr d))) sc)) ∧ (wz.cell? ⟨w3.heap.size, 0, none⟩ = some (.slice wla LN.length wlc) ∧ wz.cell? ⟨w3.heap.size, 1, none⟩ = some (.slice wsa (ln (d + 1) TN) wsc)) ∧ (wz.cell? ⟨w5.heap.size, 0, none⟩ = some (.slice qla LN.length qlc) ∧ wz.cell? ⟨w5.heap.size, 1, none⟩ = some (.slice qsa (ln (d + 1) TN) qsc))) := (show ∀ wz, _ from fun wz hb => ⟨⟨cell_later hb (cell_later HB36.out HG3.out.1.1), cell_later hb (cell_later HB36.out HG3.out.1.2)⟩, ⟨cell_later hb (cell_later HB46.out HG4.out.1.1), cell_later hb (cell_later HB46.out HG4.out.1.2)⟩, cell_later hb G6.1.1, cell_later hb G6.1.2⟩)
  have HAL : Hid (∀ wz, Below w6.heap.size w6 wz → (LRep wz (.slice la ls.length lc) ls ∧ Rep wz (d + 1) (.slice sa (ln (d + 1) (l : List (Pay × Tr d × Tr d))) sc) (l : List (Pay × Tr d × Tr d)) ∧ GRep (Value.int .i64) wz (.slice (some ⟨g, 0, none⟩) zs.length nc) zs) ∧ (LRep wz (.slice wla LN.length wlc) LN ∧ Rep wz (d + 1) (.slice wsa (ln (d + 1) TN) wsc) TN) ∧ (LRep wz (.slice qla LN.length qlc) LN ∧ Rep wz (d + 1) (.slice qsa (ln (d + 1) TN) qsc) TN)) := (show ∀ wz, _ from fun wz hb => ⟨HRR.out wz (Below.then HB16.out hb HB16.out.size), HWW.out wz (Below.then HB36.out hb HB36.out.size), (olq.rep.below A6).below hb, (osq.rep.below A6).below hb⟩)
  have HG5 : Hid ((w5.cell? ⟨w1.heap.size, 0, none⟩ = some (.slice la ls.length lc) ∧ w5.cell? ⟨w1.heap.size, 1, none⟩ = some (.slice sa (ln (d + 1) (l : List (Pay × Tr d × Tr d))) sc)) ∧ w5.cell? ⟨w3.heap.size, 0, none⟩ = some (.slice wla LN.length wlc) ∧ w5.cell? ⟨w3.heap.size, 1, none⟩ = some (.slice wsa (ln (d + 1) TN) wsc)) := ⟨⟨cell_later hb5 (cell_later HA4.out HG3.out.1.1), cell_later hb5 (cell_later HA4.out HG3.out.1.2)⟩, cell_later hb5 HG4.out.1.1, cell_later hb5 HG4.out.1.2⟩
  have HB6 : Hid (Below w.heap.size w w6) := Below.then HB1.out HB16.out HB1.out.size
  have KC : Hid (∀ wz, Below w6.heap.size w6 wz → Calls Tryz.prog 15 #[.agg #[.slice qla LN.length qlc, .slice qsa (ln (d + 1) TN) qsc], .agg #[.slice wla LN.length wlc, .slice wsa (ln (d + 1) TN) wsc]] wz fun e w' => e = .returned (.bool true) ∧ Below wz.heap.size wz w') := (show ∀ wz, _ from fun wz hb => lcProg_same (HAL.out wz hb).2.2.1 (HAL.out wz hb).2.2.2 (HAL.out wz hb).2.1.1 (HAL.out wz hb).2.1.2)
  have B66 : Hid (Below w6.heap.size w6 w6) := Below.refl _ _
  clear hw6 A6 G6 hb5 olq osq K4 HG3 HG4 HA4 HB13 HB14 HB16 HB36 HB46 HRR HWW HB1
  obtain ⟨⟨p0, p1⟩, c0, c1⟩ := HG5.out
  go_wp2_with fail
  rw [HW6.out]
  clear HW6 HG5
  (try go_at_call 15); refine Calls.mono (KC.out _ B66.out) ?_
  rintro e w7 ⟨rfl, hb_w7⟩
  have B_w7 : Hid (Below w6.heap.size w6 w7) := Below.then B66.out hb_w7 B66.out.size
  clear hb_w7
  clear p0 p1 c0 c1
  cases okb
  · obtain ⟨⟨p0, p1⟩, ⟨c0, c1⟩, q0, q1⟩ := HGP.out w7 B_w7.out
    go_wp2_with fail
    (try go_at_call 15); refine Calls.mono (KC.out _ B_w7.out) ?_
    rintro e w8 ⟨rfl, hb_w8⟩
    have B_w8 : Hid (Below w6.heap.size w6 w8) := Below.then B_w7.out hb_w8 B_w7.out.size
    clear hb_w8
    clear p0 p1 c0 c1 q0 q1
    go_wp2
    go_ret
    exact ⟨by simp, Below.then HB6.out B_w8.out HB6.out.size⟩
  have HWT := why_turn HOK.out
  obtain ⟨t1, -, t3, -⟩ := turned_back HOK.out
  rw [HLN.out, HTN.out] at HWT t3
  obtain ⟨⟨n, bd⟩, hwhy⟩ : ∃ x, whyR ls (d + 1) (l : List (Pay × Tr d × Tr d)) = x := ⟨_, rfl⟩
  rw [hwhy] at HWT
  have KWp : Hid (∀ wz, Below w6.heap.size w6 wz → Calls Tryz.prog 8 #[.agg #[.slice la ls.length lc, .slice sa (ln (d + 1) (l : List (Pay × Tr d × Tr d))) sc]] wz fun e w' => e = .returned (.tuple #[.int .i64 n, .bool bd]) ∧ Below wz.heap.size wz w') := (show ∀ wz, _ from fun wz hb => by
    have := typeWhy_any (HAL.out wz hb).1.1 (HAL.out wz hb).1.2.1 (HGD.out wz (Below.then HB6.out hb HB6.out.size))
    rwa [hwhy] at this)
  have KWq : Hid (∀ wz, Below w6.heap.size w6 wz → Calls Tryz.prog 8 #[.agg #[.slice qla LN.length qlc, .slice qsa (ln (d + 1) TN) qsc]] wz fun e w' => e = .returned (.tuple #[.int .i64 n, .bool bd]) ∧ Below wz.heap.size wz w') := (show ∀ wz, _ from fun wz hb => by
    have := typeWhy_any (HAL.out wz hb).2.2.1 (HAL.out wz hb).2.2.2 (HGD.out wz (Below.then HB6.out hb HB6.out.size))
    rwa [HWT] at this)
  have KOp : Hid (∀ wz, Below w6.heap.size w6 wz → Calls Tryz.prog 10 #[.agg #[.slice la ls.length lc, .slice sa (ln (d + 1) (l : List (Pay × Tr d × Tr d))) sc]] wz fun e w' => e = .returned (.bool (true && !bd)) ∧ Below wz.heap.size wz w') := (show ∀ wz, _ from fun wz hb => by
    have := typeOk_any (HAL.out wz hb).1.1 (HAL.out wz hb).1.2.1 (HGD.out wz (Below.then HB6.out hb HB6.out.size)).1 (HGD.out wz (Below.then HB6.out hb HB6.out.size)).2.1
    rwa [hwhy, t1] at this)
  have KOq : Hid (∀ wz, Below w6.heap.size w6 wz → Calls Tryz.prog 10 #[.agg #[.slice qla LN.length qlc, .slice qsa (ln (d + 1) TN) qsc]] wz fun e w' => e = .returned (.bool (true && !bd)) ∧ Below wz.heap.size wz w') := (show ∀ wz, _ from fun wz hb => by
    have := typeOk_any (HAL.out wz hb).2.2.1 (HAL.out wz hb).2.2.2 (HGD.out wz (Below.then HB6.out hb HB6.out.size)).1 (HGD.out wz (Below.then HB6.out hb HB6.out.size)).2.1
    rwa [HWT, t3] at this)
  clear HWT hwhy t1 t3
  obtain ⟨⟨p0, p1⟩, ⟨c0, c1⟩, q0, q1⟩ := HGP.out w7 B_w7.out
  clear c0 c1 q0 q1
  go_wp2_with fail
  (try go_at_call 8); refine Calls.mono (KWp.out _ B_w7.out) ?_
  rintro e w8 ⟨rfl, hb⟩
  have B_w8 : Hid (Below w6.heap.size w6 w8) := Below.then B_w7.out hb B_w7.out.size
  clear hb p0 p1
  obtain ⟨⟨p0, p1⟩, ⟨c0, c1⟩, q0, q1⟩ := HGP.out w8 B_w8.out
  clear c0 c1 p0 p1
  go_wp2_with fail
  (try go_at_call 8); refine Calls.mono (KWq.out _ B_w8.out) ?_
  rintro e w9 ⟨rfl, hb⟩
  have B_w9 : Hid (Below w6.heap.size w6 w9) := Below.then B_w8.out hb B_w8.out.size
  clear hb q0 q1
  obtain ⟨⟨p0, p1⟩, ⟨c0, c1⟩, q0, q1⟩ := HGP.out w9 B_w9.out
  clear c0 c1
  go_wp2_with fail
  refine wp_region_held (S := (fun wz => Below w9.heap.size w9 wz)) (by kernel_rfl) ?_
  change wpAnyH _ _ _ _ _ _ _ _ (World.drew _)
  have hHeld := (Below.refl w9.heap.size w9).drew
  refine' wpAnyH_take (i := 0) (v := _) rfl (by kernel_rfl) (by kernel_rfl) (by kernel_rfl) (fun _ _ _ h => h) (Or.inl ⟨by rfl, ?hy90001⟩) hHeld ?hn90001
  case hy90001 => (intro wz hSw; (try dsimp only at hSw); go_simp; first | done | with_reducible rfl)
  try simp only [nrm, Act.put]
  refine' wpAnyH_take (i := 1) (v := _) rfl (by kernel_rfl) (by kernel_rfl) (by kernel_rfl) (fun _ _ _ h => h) (Or.inl ⟨by rfl, ?hy90002⟩) hHeld ?hn90002
  case hy90002 => (intro wz hSw; (try dsimp only at hSw); go_simp; first | done | with_reducible rfl)
  try simp only [nrm, Act.put]
  refine' wpAnyH_take (i := 2) (v := .bool true) rfl (by kernel_rfl) (by kernel_rfl) (by kernel_rfl) (fun _ _ _ h => h) (Or.inl ⟨by rfl, ?hy90003⟩) hHeld ?hn90003
  case hy90003 => (intro wz hSw; go_simp; first | done | (simp; done))
  try simp only [nrm, Act.put]
  refine' wpAnyH_take (i := 3) (v := .bool true) rfl (by kernel_rfl) (by kernel_rfl) (by kernel_rfl) (fun _ _ _ h => h) (Or.inl ⟨by rfl, ?hy90004⟩) hHeld ?hn90004
  case hy90004 => (intro wz hSw; go_simp; first | done | (simp; done))
  try simp only [nrm, Act.put]
  refine' wpAnyH_take (i := 4) (v := _) rfl (by kernel_rfl) (by kernel_rfl) (by kernel_rfl) (fun _ _ _ h => h) (Or.inl ⟨by rfl, ?hy90005⟩) hHeld ?hn90005
  case hy90005 => (intro wz hSw; (try dsimp only at hSw); go_simp; first | done | with_reducible rfl)
  try simp only [nrm, Act.put]
  refine' wpAnyH_take (i := 5) (v := _) rfl (by kernel_rfl) (by kernel_rfl) (by kernel_rfl) (fun _ _ _ h => h) (Or.inl ⟨by rfl, ?hy90006⟩) hHeld ?hn90006
  case hy90006 => (intro wz hSw; (try dsimp only at hSw); go_simp; first | done | with_reducible rfl)
  try simp only [nrm, Act.put]
  refine' wpAnyH_take (i := 6) (v := .bool true) rfl (by kernel_rfl) (by kernel_rfl) (by kernel_rfl) (fun _ _ _ h => h) (Or.inl ⟨by rfl, ?hy90007⟩) hHeld ?hn90007
  case hy90007 => (intro wz hSw; go_simp; first | done | (simp; done))
  try simp only [nrm, Act.put]
  refine' wpAnyH_take (i := 7) (v := .bool true) rfl (by kernel_rfl) (by kernel_rfl) (by kernel_rfl) (fun _ _ _ h => h) (Or.inl ⟨by rfl, ?hy90008⟩) hHeld ?hn90008
  case hy90008 => (intro wz hSw; go_simp; first | done | (simp; done))
  try simp only [nrm, Act.put]
  refine' wpAnyH_take (i := 8) (v := .bool true) rfl (by kernel_rfl) (by kernel_rfl) (by kernel_rfl) (fun _ _ _ h => h) (Or.inl ⟨by rfl, ?hy90009⟩) hHeld ?hn90009
  case hy90009 => (intro wz hSw; go_simp; first | done | (simp; done))
  try simp only [nrm, Act.put]
  refine' wpAnyH_take (i := 9) (v := .agg #[.slice la ls.length lc, .slice sa (ln (d + 1) (l : List (Pay × Tr d × Tr d))) sc]) rfl (by kernel_rfl) (by kernel_rfl) (by kernel_rfl) (fun _ _ _ h => h) (Or.inl ⟨by rfl, ?hy90010⟩) hHeld ?hn90010
  case hy90010 => (intro wz hSw; have j0 := cell_later hSw p0; have j1 := cell_later hSw p1; go_simp)
  try simp only [nrm, Act.put]
  refine' wpAnyH_take (i := 11) (v := .agg #[.slice qla LN.length qlc, .slice qsa (ln (d + 1) TN) qsc]) rfl (by kernel_rfl) (by kernel_rfl) (by kernel_rfl) (fun _ _ _ h => h) (Or.inl ⟨by rfl, ?hy90011⟩) hHeld ?hn90011
  case hy90011 => (intro wz hSw; have j0 := cell_later hSw q0; have j1 := cell_later hSw q1; go_simp)
  try simp only [nrm, Act.put]
  refine wpAnyH_ready (rs := [10]) (by kernel_rfl) (by simp) ?_
  refine AllReadyH.cons rfl (fun K hK => ?_) AllReadyH.nil
  go_simp
  refine Calls.mono (KOp.out _ (Below.then B_w9.out hHeld B_w9.out.size)) ?_; rintro e' y1 ⟨rfl, hbx⟩; have hK2 := Below.then hHeld hbx hHeld.size
  refine hK.out _ _ (hK2) (fun hHeld => ?_)
  clear hK K
  refine wpAnyH_ready (rs := [12]) (by kernel_rfl) (by simp) ?_
  refine AllReadyH.cons rfl (fun K hK => ?_) AllReadyH.nil
  go_simp
  refine Calls.mono (KOq.out _ (Below.then B_w9.out hHeld B_w9.out.size)) ?_; rintro e' y2 ⟨rfl, hbx⟩; have hK2 := Below.then hHeld hbx hHeld.size
  refine hK.out _ _ (hK2) (fun hHeld => ?_)
  clear hK K
  refine' wpAnyH_take (i := 13) (v := .bool true) rfl (by kernel_rfl) (by kernel_rfl) (by kernel_rfl) (fun _ _ _ h => h) (Or.inl ⟨by rfl, ?hy90012⟩) hHeld ?hn90012
  case hy90012 => (intro wz hSw; go_simp; first | done | (simp; done))
  try simp only [nrm, Act.put]
  refine' wpAnyH_take (i := 14) (v := .bool true) rfl (by kernel_rfl) (by kernel_rfl) (by kernel_rfl) (fun _ _ _ h => h) (Or.inl ⟨by rfl, ?hy90013⟩) hHeld ?hn90013
  case hy90013 => (intro wz hSw; go_simp; first | done | (simp; done))
  try simp only [nrm, Act.put]
  refine' wpAnyH_take (i := 15) (v := _) rfl (by kernel_rfl) (by kernel_rfl) (by kernel_rfl) (fun _ _ _ h => h) (Or.inl ⟨by rfl, ?hy90014⟩) hHeld ?hn90014
  case hy90014 => (intro wz hSw; (try dsimp only at hSw); go_simp; first | done | with_reducible rfl)
  try simp only [nrm, Act.put]
  refine wpAnyH_done (by kernel_rfl) ?_ _
  have HBF : Hid (Below w.heap.size w _) := Below.then HB6.out (Below.then B_w9.out hHeld B_w9.out.size) HB6.out.size
  clear hHeld p0 p1 q0 q1
  go_wp2
  go_ret
  exact ⟨by simp, HBF.out⟩

end Go.Proofs.YtkgblkbgebpejaaGreatDoor
