/- The exact law of RunTo, walked. -/
import Derived.Test.YtfhlkehhoanpaaaRto
import Derived.Test.YtfhlkehhoanpaaaRst
import Derived.Test.YtfhlkehhoanpaaaBro
namespace Go.Proofs.Ytfhlkehhoanpaaa
open Go.RowKit
set_option linter.unusedSimpArgs false
set_option linter.unusedVariables false
attribute [local go_sem ↓] Go.wp_at_zero Go.wp_at_succ
attribute [local go_sem] World.cell?_alloc_some

theorem SR1 {w wz : World} {a1 a2 a3 a4 a5 a6 : Addr} {v1 v2 v3 v4 v5 v6 : Value} (h : (wz.cell? a1 = some v1 ∧ wz.cell? a2 = some v2 ∧ wz.cell? a3 = some v3) ∧ (wz.cell? a4 = some v4 ∧ wz.cell? a5 = some v5 ∧ wz.cell? a6 = some v6) ∧ Below w.heap.size w wz) : (wz.drew.cell? a1 = some v1 ∧ wz.drew.cell? a2 = some v2 ∧ wz.drew.cell? a3 = some v3) ∧ (wz.drew.cell? a4 = some v4 ∧ wz.drew.cell? a5 = some v5 ∧ wz.drew.cell? a6 = some v6) ∧ Below w.heap.size w wz.drew := ⟨h.1, h.2.1, h.2.2.drew⟩
theorem SR2 {w wz wx : World} {a1 a2 a3 a4 a5 a6 : Addr} {v1 v2 v3 v4 v5 v6 : Value} (h : (wz.cell? a1 = some v1 ∧ wz.cell? a2 = some v2 ∧ wz.cell? a3 = some v3) ∧ (wz.cell? a4 = some v4 ∧ wz.cell? a5 = some v5 ∧ wz.cell? a6 = some v6) ∧ Below w.heap.size w wz) (hb : Below wz.heap.size wz wx) : (wx.cell? a1 = some v1 ∧ wx.cell? a2 = some v2 ∧ wx.cell? a3 = some v3) ∧ (wx.cell? a4 = some v4 ∧ wx.cell? a5 = some v5 ∧ wx.cell? a6 = some v6) ∧ Below w.heap.size w wx :=
  ⟨⟨cell_later hb h.1.1, cell_later hb h.1.2.1, cell_later hb h.1.2.2⟩, ⟨cell_later hb h.2.1.1, cell_later hb h.2.1.2.1, cell_later hb h.2.1.2.2⟩, Below.then h.2.2 hb h.2.2.size⟩

set_option maxHeartbeats 8000000 in
set_option maxRecDepth 20000 in
theorem fnExactRunTo_walk {nv wv sv : Value} {zs : List Int} {ws ss : List (Int × Int)} (host : Int) (w : World) (hN : GRep (Value.int .i64) w nv zs) (hW : LRep w wv ws) (hS : LRep w sv ss) :
    Calls Try.prog 16 #[.agg #[nv, wv, sv], .int .i64 host] w fun e w' => e = .returned (.bool true) ∧ Below w.heap.size w w' := by
  obtain ⟨na, nc, hv0, -⟩ := id hN
  obtain ⟨wa, wc, hv1, -⟩ := id hW
  obtain ⟨sa, sc, hv2, -⟩ := id hS
  subst hv0 hv1 hv2
  have A : Below w.heap.size w (w.alloc (.cells #[.slice na zs.length nc, .slice wa ws.length wc, .slice sa ss.length sc] 79)) := (Below.refl _ _).alloc (Nat.le_refl _) _
  have G := C3.new w (.slice na zs.length nc) (.slice wa ws.length wc) (.slice sa ss.length sc) 79
  generalize hW0 : w.alloc (.cells #[.slice na zs.length nc, .slice wa ws.length wc, .slice sa ss.length sc] 79) = w0 at A G
  have HW0 : Hid _ := hW0
  have hw0 : w0.heap.size = w.heap.size + 1 := by rw [← hW0]; simp
  have HS0 : Hid (w0.heap.size = w.heap.size + 1) := hw0
  have HN : Hid (∀ w', Below w0.heap.size w0 w' → GRep (Value.int .i64) w' (.slice na zs.length nc) zs) := (show ∀ w', _ from fun w' hb => (hN.below A).below hb)
  have HWr : Hid (∀ w', Below w0.heap.size w0 w' → LRep w' (.slice wa ws.length wc) ws) := (show ∀ w', _ from fun w' hb => (hW.below A).below hb)
  have HSd : Hid (∀ w', Below w0.heap.size w0 w' → LRep w' (.slice sa ss.length sc) ss) := (show ∀ w', _ from fun w' hb => (hS.below A).below hb)
  have C0 : Hid _ := szRun_any (left := 1048576) (hN.below A) (hW.below A) (hS.below A) (by decide) (by decide)
  have HA : Hid (Below w.heap.size w w0) := A
  have B_w0 : Below w0.heap.size w0 w0 := Below.refl _ _
  clear hN hW hS hW0 A hw0
  have box_0 : Hid (C3 w0 w.heap.size (.slice na zs.length nc) (.slice wa ws.length wc) (.slice sa ss.length sc)) := G
  clear G
  go_enter Try.func16, Try.ntmps16
  go_wp2_with fail
  rw [HW0.out]
  clear HW0
  go_at_call 53; refine Calls.mono C0.out ?_; rintro e w1 ⟨rfl, hb1⟩
  clear C0
  have z_w1 : w0.heap.size ≤ w1.heap.size := hb1.size
  have box_1 : Hid (C3 w1 w.heap.size (.slice na zs.length nc) (.slice wa ws.length wc) (.slice sa ss.length sc)) := C3.below box_0.out hb1
  clear box_0
  have B_w1 : Below w0.heap.size w0 w1 := Below.then B_w0 hb1 B_w0.size
  clear hb1 B_w0
  by_cases hsz : ((zs.length + ws.length + ss.length : Nat) : Int) ≤ 1048576
  case neg =>
    rw [szR_neg hsz]
    go_wp2
    go_ret
    exact ⟨rfl, Below.then HA.out B_w1 HA.out.size⟩
  rw [szR_pos hsz]
  have h0 : ¬ (1048576 - ((zs.length + ws.length + ss.length : Nat) : Int) < 0) := by omega
  have h0' : 0 ≤ 1048576 - ((zs.length + ws.length + ss.length : Nat) : Int) := by omega
  have l0 : zs.length ≤ 1048576 := by omega
  have l1 : ws.length ≤ 1048576 := by omega
  have l2 : ss.length ≤ 1048576 := by omega
  have lx : (toH host ss).length ≤ 1048576 := by have := toH_len host ss; omega
  have CT : Hid (∀ wx, Below w0.heap.size w0 wx → Calls Try.prog 54 #[.agg #[.slice na zs.length nc, .slice wa ws.length wc, .slice sa ss.length sc]] wx fun e w' => ∃ nv' wv' sv' b0 b1 b2, e = .returned (.agg #[nv', wv', sv']) ∧ Below wx.heap.size wx w' ∧ ROwn w' nv' wv' sv' zs ws ss b0 b1 b2 ∧ (∀ b ∈ b0 ++ b1 ++ b2, wx.heap.size ≤ b ∧ b < w'.heap.size) ∧ Apart b0 b1 b2) := (show ∀ wx, _ from fun wx hb => toRun_any (HN.out wx hb) (HWr.out wx hb) (HSd.out wx hb) l0 l1 l2)
  have CS : Hid (∀ (na wa : Option Addr) (n0 nc n1 wc : Nat) (sv : Value) (wx : World), LRep wx sv ss → Calls Try.prog 38 #[.agg #[.slice na n0 nc, .slice wa n1 wc, sv], .int .i64 host] wx fun e w' => ∃ v' bs, e = .returned v' ∧ Below wx.heap.size wx w' ∧ GOwn (Value.int .i64) w' v' (toH host ss) bs ∧ (∀ b ∈ bs, wx.heap.size ≤ b ∧ b < w'.heap.size)) := (show ∀ (na wa : Option Addr) (n0 nc n1 wc : Nat) (sv : Value) (wx : World), _ from fun _ _ _ _ _ _ _ _ h => sRunTo_any host h l2)
  have CI : Hid (∀ (na wa : Option Addr) (n0 nc n1 wc : Nat) (sv : Value) (wx : World), LRep wx sv ss → Calls Try.prog 37 #[.agg #[.slice na n0 nc, .slice wa n1 wc, sv], .int .i64 host] wx fun e w' => ∃ v' bs, e = .returned v' ∧ Below wx.heap.size wx w' ∧ GOwn (Value.int .i64) w' v' (toH host ss) bs ∧ (∀ b ∈ bs, wx.heap.size ≤ b ∧ b < w'.heap.size)) := (show ∀ (na wa : Option Addr) (n0 nc n1 wc : Nat) (sv : Value) (wx : World), _ from fun _ _ _ _ _ _ _ _ h => runTo_any host h l2)
  generalize toH host ss = xs at CS CI lx
  generalize 1048576 - ((zs.length + ws.length + ss.length : Nat) : Int) = z at h0 h0' ⊢
  obtain ⟨⟨x0, x1, x2⟩, -⟩ := box_1.out
  go_wp2_with fail
  clear x0 x1 x2
  go_at_call 54; refine (CT.out _ B_w1).mono ?_
  rintro e w2 ⟨nv1, wv1, sv1, _, _, _, rfl, hb_w2, o1, -, -⟩
  obtain ⟨na1, nc1, rfl, -⟩ := o1.n.rep
  obtain ⟨wa1, wc1, rfl, -⟩ := o1.wr.rep
  obtain ⟨sa1, sc1, rfl, -⟩ := o1.sd.rep
  have z_w2 : w1.heap.size ≤ w2.heap.size := hb_w2.size
  have box_2 : Hid (C3 w2 w.heap.size (.slice na zs.length nc) (.slice wa ws.length wc) (.slice sa ss.length sc)) := C3.below box_1.out hb_w2
  clear box_1
  have B_w2 : Below w0.heap.size w0 w2 := Below.then B_w1 hb_w2 B_w1.size
  clear hb_w2 B_w1
  have C1 : Hid _ := CS.out na1 wa1 zs.length nc1 ws.length wc1 _ _ o1.sd.rep
  clear o1
  go_wp2_with fail
  go_at_call 38; refine Calls.mono C1.out ?_
  rintro e w3 ⟨cv, cb, rfl, hb_w3, oc, rc⟩
  obtain ⟨ca, cc, rfl, -⟩ := oc.rep
  clear C1
  have z_w3 : w2.heap.size ≤ w3.heap.size := hb_w3.size
  have box_3 : Hid (C3 w3 w.heap.size (.slice na zs.length nc) (.slice wa ws.length wc) (.slice sa ss.length sc)) := C3.below box_2.out hb_w3
  clear box_2
  have B_w3 : Below w0.heap.size w0 w3 := Below.then B_w2 hb_w3 B_w2.size
  clear hb_w3 B_w2
  have RC : Hid (∀ b ∈ cb, w2.heap.size ≤ b ∧ b < w3.heap.size) := rc
  have c_0 : Hid (GOwn (Value.int .i64) w3 (.slice ca xs.length cc) xs cb) := oc
  clear oc rc
  obtain ⟨⟨x0, x1, x2⟩, -⟩ := box_3.out
  go_wp2_with fail
  clear x0 x1 x2
  go_at_call 54; refine (CT.out _ B_w3).mono ?_
  rintro e w4 ⟨nv2, wv2, sv2, p20, p21, p22, rfl, hb_w4, o2, r2, ap2⟩
  obtain ⟨na2, nc2, rfl, -⟩ := o2.n.rep
  obtain ⟨wa2, wc2, rfl, -⟩ := o2.wr.rep
  obtain ⟨sa2, sc2, rfl, -⟩ := o2.sd.rep
  have z_w4 : w3.heap.size ≤ w4.heap.size := hb_w4.size
  have box_4 : Hid (C3 w4 w.heap.size (.slice na zs.length nc) (.slice wa ws.length wc) (.slice sa ss.length sc)) := C3.below box_3.out hb_w4
  clear box_3
  have c_1 : Hid (GOwn (Value.int .i64) w4 (.slice ca xs.length cc) xs cb) := GOwn.frame (fun b hb' => hb_w4.block b (by have := RC.out b hb'; omega)) c_0.out
  clear c_0
  have B_w4 : Below w0.heap.size w0 w4 := Below.then B_w3 hb_w4 B_w3.size
  clear hb_w4 B_w3
  have RX : Hid (∀ b ∈ p20 ++ p21 ++ p22, w3.heap.size ≤ b ∧ b < w4.heap.size) := r2
  have xo_0 : Hid (ROwn w4 (.slice na2 zs.length nc2) (.slice wa2 ws.length wc2) (.slice sa2 ss.length sc2) zs ws ss p20 p21 p22) := o2
  clear o2 r2
  have hb_w5 : Below w4.heap.size w4 (w4.alloc (.cells #[.slice na2 zs.length nc2, .slice wa2 ws.length wc2, .slice sa2 ss.length sc2] 47)) := (Below.refl _ _).alloc (Nat.le_refl _) _
  have G5 := C3.new w4 (.slice na2 zs.length nc2) (.slice wa2 ws.length wc2) (.slice sa2 ss.length sc2) 47
  have z5 : (w4.alloc (.cells #[.slice na2 zs.length nc2, .slice wa2 ws.length wc2, .slice sa2 ss.length sc2] 47)).heap.size = w4.heap.size + 1 := by simp
  generalize hw5 : w4.alloc (.cells #[.slice na2 zs.length nc2, .slice wa2 ws.length wc2, .slice sa2 ss.length sc2] 47) = w5 at hb_w5 G5 z5
  have HW5 : Hid _ := hw5
  have HZ5 : Hid (w5.heap.size = w4.heap.size + 1) := z5
  clear hw5 z5
  have z_w5 : w4.heap.size ≤ w5.heap.size := hb_w5.size
  have box_5 : Hid (C3 w5 w.heap.size (.slice na zs.length nc) (.slice wa ws.length wc) (.slice sa ss.length sc)) := C3.below box_4.out hb_w5
  clear box_4
  have c_2 : Hid (GOwn (Value.int .i64) w5 (.slice ca xs.length cc) xs cb) := GOwn.frame (fun b hb' => hb_w5.block b (by have := RC.out b hb'; omega)) c_1.out
  clear c_1
  have xo_1 : Hid (ROwn w5 (.slice na2 zs.length nc2) (.slice wa2 ws.length wc2) (.slice sa2 ss.length sc2) zs ws ss p20 p21 p22) := ROwn.frame xo_0.out (fun b hb' => hb_w5.block b (by have := RX.out b hb'; omega))
  clear xo_0
  have B_w5 : Below w0.heap.size w0 w5 := Below.then B_w4 hb_w5 B_w4.size
  clear hb_w5 B_w4
  have xb_0 : Hid (C3 w5 w4.heap.size (.slice na2 zs.length nc2) (.slice wa2 ws.length wc2) (.slice sa2 ss.length sc2)) := G5
  clear G5
  have C2 : Hid _ := CI.out na2 wa2 zs.length nc2 ws.length wc2 _ _ xo_1.out.sd.rep
  go_wp2_with fail
  rw [HW5.out]
  clear HW5
  go_at_call 37; refine Calls.mono C2.out ?_
  rintro e w6 ⟨gv, gb, rfl, hb_w6, og, rg⟩
  obtain ⟨ga, gc, rfl, -⟩ := og.rep
  clear C2
  have z_w6 : w5.heap.size ≤ w6.heap.size := hb_w6.size
  have box_6 : Hid (C3 w6 w.heap.size (.slice na zs.length nc) (.slice wa ws.length wc) (.slice sa ss.length sc)) := C3.below box_5.out hb_w6
  clear box_5
  have c_3 : Hid (GOwn (Value.int .i64) w6 (.slice ca xs.length cc) xs cb) := GOwn.frame (fun b hb' => hb_w6.block b (by have := RC.out b hb'; omega)) c_2.out
  clear c_2
  have xo_2 : Hid (ROwn w6 (.slice na2 zs.length nc2) (.slice wa2 ws.length wc2) (.slice sa2 ss.length sc2) zs ws ss p20 p21 p22) := ROwn.frame xo_1.out (fun b hb' => hb_w6.block b (by have := RX.out b hb'; omega))
  clear xo_1
  have xb_1 : Hid (C3 w6 w4.heap.size (.slice na2 zs.length nc2) (.slice wa2 ws.length wc2) (.slice sa2 ss.length sc2)) := C3.below xb_0.out hb_w6
  clear xb_0
  have B_w6 : Below w0.heap.size w0 w6 := Below.then B_w5 hb_w6 B_w5.size
  clear hb_w6 B_w5
  have RG : Hid (∀ b ∈ gb, w5.heap.size ≤ b ∧ b < w6.heap.size) := rg
  have g_0 : Hid (GOwn (Value.int .i64) w6 (.slice ga xs.length gc) xs gb) := og
  clear og rg
  have CE_w7 : Hid _ := eqIntS_same g_0.out.rep c_3.out.rep
  go_wp2_with fail
  go_at_call 47; refine Calls.mono CE_w7.out ?_
  rintro e w7 ⟨rfl, hb_w7⟩
  clear CE_w7
  have z_w7 : w6.heap.size ≤ w7.heap.size := hb_w7.size
  have box_7 : Hid (C3 w7 w.heap.size (.slice na zs.length nc) (.slice wa ws.length wc) (.slice sa ss.length sc)) := C3.below box_6.out hb_w7
  clear box_6
  have c_4 : Hid (GOwn (Value.int .i64) w7 (.slice ca xs.length cc) xs cb) := GOwn.frame (fun b hb' => hb_w7.block b (by have := RC.out b hb'; omega)) c_3.out
  clear c_3
  have xo_3 : Hid (ROwn w7 (.slice na2 zs.length nc2) (.slice wa2 ws.length wc2) (.slice sa2 ss.length sc2) zs ws ss p20 p21 p22) := ROwn.frame xo_2.out (fun b hb' => hb_w7.block b (by have := RX.out b hb'; omega))
  clear xo_2
  have xb_2 : Hid (C3 w7 w4.heap.size (.slice na2 zs.length nc2) (.slice wa2 ws.length wc2) (.slice sa2 ss.length sc2)) := C3.below xb_1.out hb_w7
  clear xb_1
  have g_1 : Hid (GOwn (Value.int .i64) w7 (.slice ga xs.length gc) xs gb) := GOwn.frame (fun b hb' => hb_w7.block b (by have := RG.out b hb'; omega)) g_0.out
  clear g_0
  have B_w7 : Below w0.heap.size w0 w7 := Below.then B_w6 hb_w7 B_w6.size
  clear hb_w7 B_w6
  obtain ⟨⟨x0, x1, x2⟩, -⟩ := box_7.out
  obtain ⟨⟨y0, y1, y2⟩, -⟩ := xb_2.out
  go_wp2_with fail
  refine wp_region_held (S := (fun wz => (wz.cell? ⟨w.heap.size, 0, none⟩ = some (.slice na zs.length nc) ∧ wz.cell? ⟨w.heap.size, 1, none⟩ = some (.slice wa ws.length wc) ∧ wz.cell? ⟨w.heap.size, 2, none⟩ = some (.slice sa ss.length sc)) ∧ (wz.cell? ⟨w4.heap.size, 0, none⟩ = some (.slice na2 zs.length nc2) ∧ wz.cell? ⟨w4.heap.size, 1, none⟩ = some (.slice wa2 ws.length wc2) ∧ wz.cell? ⟨w4.heap.size, 2, none⟩ = some (.slice sa2 ss.length sc2)) ∧ Below w7.heap.size w7 wz)) (by kernel_rfl) ?_
  change wpAnyH _ _ _ _ _ _ _ _ (World.drew _)
  have hHeld := SR1 ⟨⟨x0, x1, x2⟩, ⟨y0, y1, y2⟩, Below.refl w7.heap.size w7⟩
  refine' wpAnyH_take (i := 0) (v := .agg #[.slice na2 zs.length nc2, .slice wa2 ws.length wc2, .slice sa2 ss.length sc2]) rfl (by kernel_rfl) (by kernel_rfl) (by kernel_rfl) (fun _ _ _ h => h) (Or.inl ⟨by rfl, ?hy1⟩) hHeld ?hn1
  case hy1 => (intro wz hSw; obtain ⟨_, ⟨k0, k1, k2⟩, _⟩ := hSw; go_simp)
  try simp only [List.getElem_toArray, List.getElem_cons_zero, List.getElem_cons_succ, Act.put, List.setIfInBounds_toArray, List.set_cons_zero, List.set_cons_succ]
  refine' wpAnyH_take (i := 1) (v := .agg #[.slice na zs.length nc, .slice wa ws.length wc, .slice sa ss.length sc]) rfl (by kernel_rfl) (by kernel_rfl) (by kernel_rfl) (fun _ _ _ h => h) (Or.inl ⟨by rfl, ?hy2⟩) hHeld ?hn2
  case hy2 => (intro wz hSw; obtain ⟨⟨k0, k1, k2⟩, _, _⟩ := hSw; go_simp)
  try simp only [List.getElem_toArray, List.getElem_cons_zero, List.getElem_cons_succ, Act.put, List.setIfInBounds_toArray, List.set_cons_zero, List.set_cons_succ]
  refine wpAnyH_ready (rs := [2]) (by kernel_rfl) (by simp) ?_
  refine AllReadyH.cons rfl (fun K hK => ?_) AllReadyH.nil
  go_simp
  refine (CT.out _ (Below.then B_w7 hHeld.2.2 B_w7.size)).mono ?_; rintro e' w8 ⟨nv3, wv3, sv3, _, _, _, rfl, hbx, o3, -, -⟩; obtain ⟨na3, nc3, rfl, -⟩ := o3.n.rep; obtain ⟨wa3, wc3, rfl, -⟩ := o3.wr.rep; obtain ⟨sa3, sc3, rfl, -⟩ := o3.sd.rep; have CE : Hid _ := eqRun_same (GRep.below (Below.then hHeld.2.2 hbx hHeld.2.2.size) xo_3.out.n.rep) (LRep.below (Below.then hHeld.2.2 hbx hHeld.2.2.size) xo_3.out.wr.rep) (LRep.below (Below.then hHeld.2.2 hbx hHeld.2.2.size) xo_3.out.sd.rep) o3.n.rep o3.wr.rep o3.sd.rep
  refine hK.out _ _ (SR2 hHeld hbx) (fun hHeld => ?_)
  clear hK K
  refine wpAnyH_ready (rs := [3]) (by kernel_rfl) (by simp) ?_
  refine AllReadyH.cons rfl (fun K hK => ?_) AllReadyH.nil
  go_simp
  refine Calls.mono CE.out ?_; rintro e' w9 ⟨rfl, hbx⟩
  refine hK.out _ _ (SR2 hHeld hbx) (fun hHeld => ?_)
  clear hK K
  refine' wpAnyH_take (i := 4) (v := _) rfl (by kernel_rfl) (by kernel_rfl) (by kernel_rfl) (fun _ _ _ h => h) (Or.inl ⟨by rfl, ?hy3⟩) hHeld ?hn3
  case hy3 => (intro wz hSw; (try dsimp only at hSw); go_simp; first | done | with_reducible rfl)
  try simp only [List.getElem_toArray, List.getElem_cons_zero, List.getElem_cons_succ, Act.put, List.setIfInBounds_toArray, List.set_cons_zero, List.set_cons_succ]
  refine wpAnyH_done (by kernel_rfl) ?_ _
  clear x0 x1 x2 y0 y1 y2
  obtain ⟨-, -, hb_w9⟩ := hHeld
  clear CE
  have z_w9 : w7.heap.size ≤ w9.heap.size := hb_w9.size
  have box_8 : Hid (C3 w9 w.heap.size (.slice na zs.length nc) (.slice wa ws.length wc) (.slice sa ss.length sc)) := C3.below box_7.out hb_w9
  clear box_7
  have c_5 : Hid (GOwn (Value.int .i64) w9 (.slice ca xs.length cc) xs cb) := GOwn.frame (fun b hb' => hb_w9.block b (by have := RC.out b hb'; omega)) c_4.out
  clear c_4
  have xo_4 : Hid (ROwn w9 (.slice na2 zs.length nc2) (.slice wa2 ws.length wc2) (.slice sa2 ss.length sc2) zs ws ss p20 p21 p22) := ROwn.frame xo_3.out (fun b hb' => hb_w9.block b (by have := RX.out b hb'; omega))
  clear xo_3
  have xb_3 : Hid (C3 w9 w4.heap.size (.slice na2 zs.length nc2) (.slice wa2 ws.length wc2) (.slice sa2 ss.length sc2)) := C3.below xb_2.out hb_w9
  clear xb_2
  have g_2 : Hid (GOwn (Value.int .i64) w9 (.slice ga xs.length gc) xs gb) := GOwn.frame (fun b hb' => hb_w9.block b (by have := RG.out b hb'; omega)) g_1.out
  clear g_1
  have B_w9 : Below w0.heap.size w0 w9 := Below.then B_w7 hb_w9 B_w7.size
  clear hb_w9 B_w7
  have CM : Hid _ := markRun_any xo_4.out (fun b hb' => by have := RX.out b hb'; omega) ap2 l0 l1 l2
  obtain ⟨⟨y0, y1, y2⟩, -⟩ := xb_3.out
  go_wp2_with fail
  clear y0 y1 y2
  go_at_call 51; refine Calls.mono CM.out ?_
  rintro e w10 ⟨rfl, fs10, -⟩
  clear xo_4
  clear xb_3
  have := HZ5.out
  have := HS0.out
  have z_w10 : w9.heap.size ≤ w10.heap.size := fs10.size
  have box_9 : Hid (C3 w10 w.heap.size (.slice na zs.length nc) (.slice wa ws.length wc) (.slice sa ss.length sc)) := C3.frame box_8.out (fs10.block w.heap.size (C3.lt box_8.out) (fun hm => by have := RX.out _ hm; omega))
  clear box_8
  have c_6 : Hid (GOwn (Value.int .i64) w10 (.slice ca xs.length cc) xs cb) := GOwn.frame (fun b hb' => fs10.block b (by have := RC.out b hb'; omega) (fun hm => by have := RX.out b hm; have := RC.out b hb'; omega)) c_5.out
  clear c_5
  have g_3 : Hid (GOwn (Value.int .i64) w10 (.slice ga xs.length gc) xs gb) := GOwn.frame (fun b hb' => fs10.block b (by have := RG.out b hb'; omega) (fun hm => by have := RX.out b hm; have := RG.out b hb'; omega)) g_2.out
  clear g_2
  have B_w10 : Below w0.heap.size w0 w10 := B_w9.trans (fs10.below (fun b hb' => by have := RX.out b hb'; omega) B_w9.size)
  clear B_w9
  clear fs10 CM
  have k0 : 0 ≤ 1 + (zs.length : Int) + 2 * (ws.length : Int) + 2 * (ss.length : Int) := by omega
  have k1 : ¬ (1 + (zs.length : Int) + 2 * (ws.length : Int) + 2 * (ss.length : Int) < 0) := by omega
  generalize 1 + (zs.length : Int) + 2 * (ws.length : Int) + 2 * (ss.length : Int) = kk at k0 k1 ⊢
  have CE_w11 : Hid _ := eqIntS_same g_3.out.rep c_6.out.rep
  go_wp2_with fail
  go_at_call 47; refine Calls.mono CE_w11.out ?_
  rintro e w11 ⟨rfl, hb_w11⟩
  clear CE_w11
  have z_w11 : w10.heap.size ≤ w11.heap.size := hb_w11.size
  have box_10 : Hid (C3 w11 w.heap.size (.slice na zs.length nc) (.slice wa ws.length wc) (.slice sa ss.length sc)) := C3.below box_9.out hb_w11
  clear box_9
  have c_7 : Hid (GOwn (Value.int .i64) w11 (.slice ca xs.length cc) xs cb) := GOwn.frame (fun b hb' => hb_w11.block b (by have := RC.out b hb'; omega)) c_6.out
  clear c_6
  have g_4 : Hid (GOwn (Value.int .i64) w11 (.slice ga xs.length gc) xs gb) := GOwn.frame (fun b hb' => hb_w11.block b (by have := RG.out b hb'; omega)) g_3.out
  clear g_3
  have B_w11 : Below w0.heap.size w0 w11 := Below.then B_w10 hb_w11 B_w10.size
  clear hb_w11 B_w10
  have CN : Hid _ := markIntS_any (k := 1) g_4.out (by decide) (by omega)
  go_wp2_with fail
  go_at_call 50; refine Calls.mono CN.out ?_
  rintro e w12 ⟨rfl, fr12, og⟩
  clear g_4
  have fs12 : Fs gb w11 w12 := Fs.of_fr fr12
  clear fr12 CN
  have z_w12 : w11.heap.size ≤ w12.heap.size := fs12.size
  have box_11 : Hid (C3 w12 w.heap.size (.slice na zs.length nc) (.slice wa ws.length wc) (.slice sa ss.length sc)) := C3.frame box_10.out (fs12.block w.heap.size (C3.lt box_10.out) (fun hm => by have := RG.out _ hm; omega))
  clear box_10
  have c_8 : Hid (GOwn (Value.int .i64) w12 (.slice ca xs.length cc) xs cb) := GOwn.frame (fun b hb' => fs12.block b (by have := RC.out b hb'; omega) (fun hm => by have := RG.out b hm; have := RC.out b hb'; omega)) c_7.out
  clear c_7
  have B_w12 : Below w0.heap.size w0 w12 := B_w11.trans (fs12.below (fun b hb' => by have := RG.out b hb'; omega) B_w11.size)
  clear B_w11
  have g_0 : Hid (GOwn (Value.int .i64) w12 (.slice ga xs.length gc) (nf 1 xs.length) gb) := og
  clear og fs12
  have m0 : 0 ≤ 1 + (xs.length : Int) := by omega
  have m1 : ¬ (1 + (xs.length : Int) < 0) := by omega
  obtain ⟨mm, hmm⟩ : ∃ m : Int, 1 + (xs.length : Int) = m := ⟨_, rfl⟩
  rw [hmm] at m0 m1 ⊢
  have HMM : Hid _ := hmm
  clear hmm
  have CH_w13 : Hid _ := heldIntS_any (n := xs.length) (k := 1) g_0.out.rep (by decide) (by omega)
  go_wp2_with fail
  go_at_call 55; refine Calls.mono CH_w13.out ?_
  rintro e w13 ⟨rfl, hb_w13⟩
  rw [HMM.out]
  clear CH_w13
  have z_w13 : w12.heap.size ≤ w13.heap.size := hb_w13.size
  have box_12 : Hid (C3 w13 w.heap.size (.slice na zs.length nc) (.slice wa ws.length wc) (.slice sa ss.length sc)) := C3.below box_11.out hb_w13
  clear box_11
  have c_9 : Hid (GOwn (Value.int .i64) w13 (.slice ca xs.length cc) xs cb) := GOwn.frame (fun b hb' => hb_w13.block b (by have := RC.out b hb'; omega)) c_8.out
  clear c_8
  have g_1 : Hid (GOwn (Value.int .i64) w13 (.slice ga xs.length gc) (nf 1 xs.length) gb) := GOwn.frame (fun b hb' => hb_w13.block b (by have := RG.out b hb'; omega)) g_0.out
  clear g_0
  have B_w13 : Below w0.heap.size w0 w13 := Below.then B_w12 hb_w13 B_w12.size
  clear hb_w13 B_w12
  obtain ⟨⟨x0, x1, x2⟩, -⟩ := box_12.out
  go_wp2_with fail
  clear x0 x1 x2
  go_at_call 54; refine (CT.out _ B_w13).mono ?_
  rintro e w14 ⟨nv4, wv4, sv4, _, _, _, rfl, hb_w14, o4, -, -⟩
  obtain ⟨na4, nc4, rfl, -⟩ := o4.n.rep
  obtain ⟨wa4, wc4, rfl, -⟩ := o4.wr.rep
  obtain ⟨sa4, sc4, rfl, -⟩ := o4.sd.rep
  have z_w14 : w13.heap.size ≤ w14.heap.size := hb_w14.size
  have box_13 : Hid (C3 w14 w.heap.size (.slice na zs.length nc) (.slice wa ws.length wc) (.slice sa ss.length sc)) := C3.below box_12.out hb_w14
  clear box_12
  have c_10 : Hid (GOwn (Value.int .i64) w14 (.slice ca xs.length cc) xs cb) := GOwn.frame (fun b hb' => hb_w14.block b (by have := RC.out b hb'; omega)) c_9.out
  clear c_9
  have g_2 : Hid (GOwn (Value.int .i64) w14 (.slice ga xs.length gc) (nf 1 xs.length) gb) := GOwn.frame (fun b hb' => hb_w14.block b (by have := RG.out b hb'; omega)) g_1.out
  clear g_1
  have B_w14 : Below w0.heap.size w0 w14 := Below.then B_w13 hb_w14 B_w13.size
  clear hb_w14 B_w13
  have C4 : Hid _ := CI.out na4 wa4 zs.length nc4 ws.length wc4 _ _ o4.sd.rep
  clear o4
  go_wp2_with fail
  go_at_call 37; refine Calls.mono C4.out ?_
  rintro e w15 ⟨hv, hbb, rfl, hb_w15, oh, rh⟩
  obtain ⟨ha, hc, rfl, -⟩ := oh.rep
  clear C4
  have z_w15 : w14.heap.size ≤ w15.heap.size := hb_w15.size
  have box_14 : Hid (C3 w15 w.heap.size (.slice na zs.length nc) (.slice wa ws.length wc) (.slice sa ss.length sc)) := C3.below box_13.out hb_w15
  clear box_13
  have c_11 : Hid (GOwn (Value.int .i64) w15 (.slice ca xs.length cc) xs cb) := GOwn.frame (fun b hb' => hb_w15.block b (by have := RC.out b hb'; omega)) c_10.out
  clear c_10
  have g_3 : Hid (GOwn (Value.int .i64) w15 (.slice ga xs.length gc) (nf 1 xs.length) gb) := GOwn.frame (fun b hb' => hb_w15.block b (by have := RG.out b hb'; omega)) g_2.out
  clear g_2
  have B_w15 : Below w0.heap.size w0 w15 := Below.then B_w14 hb_w15 B_w14.size
  clear hb_w15 B_w14
  have RH : Hid (∀ b ∈ hbb, w14.heap.size ≤ b ∧ b < w15.heap.size) := rh
  have h_0 : Hid (GOwn (Value.int .i64) w15 (.slice ha xs.length hc) xs hbb) := oh
  clear oh rh
  have CE_w16 : Hid _ := eqIntS_same h_0.out.rep c_11.out.rep
  go_wp2_with fail
  go_at_call 47; refine Calls.mono CE_w16.out ?_
  rintro e w16 ⟨rfl, hb_w16⟩
  clear CE_w16
  have z_w16 : w15.heap.size ≤ w16.heap.size := hb_w16.size
  have box_15 : Hid (C3 w16 w.heap.size (.slice na zs.length nc) (.slice wa ws.length wc) (.slice sa ss.length sc)) := C3.below box_14.out hb_w16
  clear box_14
  have c_12 : Hid (GOwn (Value.int .i64) w16 (.slice ca xs.length cc) xs cb) := GOwn.frame (fun b hb' => hb_w16.block b (by have := RC.out b hb'; omega)) c_11.out
  clear c_11
  have g_4 : Hid (GOwn (Value.int .i64) w16 (.slice ga xs.length gc) (nf 1 xs.length) gb) := GOwn.frame (fun b hb' => hb_w16.block b (by have := RG.out b hb'; omega)) g_3.out
  clear g_3
  have h_1 : Hid (GOwn (Value.int .i64) w16 (.slice ha xs.length hc) xs hbb) := GOwn.frame (fun b hb' => hb_w16.block b (by have := RH.out b hb'; omega)) h_0.out
  clear h_0
  have B_w16 : Below w0.heap.size w0 w16 := Below.then B_w15 hb_w16 B_w15.size
  clear hb_w16 B_w15
  have CH_w17 : Hid _ := heldIntS_any (n := xs.length) (k := 1) g_4.out.rep (by decide) (by omega)
  go_wp2_with fail
  go_at_call 55; refine Calls.mono CH_w17.out ?_
  rintro e w17 ⟨rfl, hb_w17⟩
  rw [HMM.out]
  clear CH_w17
  have z_w17 : w16.heap.size ≤ w17.heap.size := hb_w17.size
  have box_16 : Hid (C3 w17 w.heap.size (.slice na zs.length nc) (.slice wa ws.length wc) (.slice sa ss.length sc)) := C3.below box_15.out hb_w17
  clear box_15
  have c_13 : Hid (GOwn (Value.int .i64) w17 (.slice ca xs.length cc) xs cb) := GOwn.frame (fun b hb' => hb_w17.block b (by have := RC.out b hb'; omega)) c_12.out
  clear c_12
  have g_5 : Hid (GOwn (Value.int .i64) w17 (.slice ga xs.length gc) (nf 1 xs.length) gb) := GOwn.frame (fun b hb' => hb_w17.block b (by have := RG.out b hb'; omega)) g_4.out
  clear g_4
  have h_2 : Hid (GOwn (Value.int .i64) w17 (.slice ha xs.length hc) xs hbb) := GOwn.frame (fun b hb' => hb_w17.block b (by have := RH.out b hb'; omega)) h_1.out
  clear h_1
  have B_w17 : Below w0.heap.size w0 w17 := Below.then B_w16 hb_w17 B_w16.size
  clear hb_w17 B_w16
  go_wp2
  go_ret
  exact ⟨rfl, Below.then HA.out B_w17 HA.out.size⟩

end Go.Proofs.Ytfhlkehhoanpaaa
