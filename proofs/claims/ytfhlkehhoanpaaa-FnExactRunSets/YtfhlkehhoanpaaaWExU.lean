/- The exact law of RunSets, walked. -/
import Derived.Test.YtfhlkehhoanpaaaRto
import Derived.Test.YtfhlkehhoanpaaaRst
import Derived.Test.YtfhlkehhoanpaaaBro
import Derived.Test.YtfhlkehhoanpaaaWExT
namespace Go.Proofs.Ytfhlkehhoanpaaa
open Go.RowKit
set_option linter.unusedSimpArgs false
set_option linter.unusedVariables false
attribute [local go_sem ↓] Go.wp_at_zero Go.wp_at_succ
attribute [local go_sem] World.cell?_alloc_some

set_option maxHeartbeats 8000000 in
set_option maxRecDepth 20000 in
theorem fnExactRunSets_walk {nv wv sv bv : Value} {zs : List Int} {ws ss : List (Int × Int)} {vs : List Bool} (w : World) (hN : GRep (Value.int .i64) w nv zs) (hW : LRep w wv ws) (hS : LRep w sv ss) (hV : GRep Value.bool w bv vs) :
    Calls Try.prog 17 #[.agg #[nv, wv, sv], bv] w fun e w' => e = .returned (.bool true) ∧ Below w.heap.size w w' := by
  obtain ⟨na, nc, hv0, -⟩ := id hN
  obtain ⟨wa, wc, hv1, -⟩ := id hW
  obtain ⟨sa, sc, hv2, -⟩ := id hS
  obtain ⟨ba, bc, hv3, hblc, hbcm, -⟩ := id hV
  subst hv0 hv1 hv2 hv3
  have A : Below w.heap.size w (w.alloc (.cells #[.slice na zs.length nc, .slice wa ws.length wc, .slice sa ss.length sc] 79)) := (Below.refl _ _).alloc (Nat.le_refl _) _
  have G := C3.new w (.slice na zs.length nc) (.slice wa ws.length wc) (.slice sa ss.length sc) 79
  generalize hW0 : w.alloc (.cells #[.slice na zs.length nc, .slice wa ws.length wc, .slice sa ss.length sc] 79) = w0 at A G
  have HW0 : Hid _ := hW0
  have hw0 : w0.heap.size = w.heap.size + 1 := by rw [← hW0]; simp
  have HS0 : Hid (w0.heap.size = w.heap.size + 1) := hw0
  have HN : Hid (∀ w', Below w0.heap.size w0 w' → GRep (Value.int .i64) w' (.slice na zs.length nc) zs) := (show ∀ w', _ from fun w' hb => (hN.below A).below hb)
  have HWr : Hid (∀ w', Below w0.heap.size w0 w' → LRep w' (.slice wa ws.length wc) ws) := (show ∀ w', _ from fun w' hb => (hW.below A).below hb)
  have HSd : Hid (∀ w', Below w0.heap.size w0 w' → LRep w' (.slice sa ss.length sc) ss) := (show ∀ w', _ from fun w' hb => (hS.below A).below hb)
  have HV : Hid (∀ w', Below w0.heap.size w0 w' → GRep Value.bool w' (.slice ba vs.length bc) vs) := (show ∀ w', _ from fun w' hb => (hV.below A).below hb)
  have C0 : Hid _ := szRun_any (left := 1048576) (hN.below A) (hW.below A) (hS.below A) (by decide) (by decide)
  have HA : Hid (Below w.heap.size w w0) := A
  have B_w0 : Below w0.heap.size w0 w0 := Below.refl _ _
  clear hN hW hS hV hW0 A hw0
  have box_0 : Hid (C3 w0 w.heap.size (.slice na zs.length nc) (.slice wa ws.length wc) (.slice sa ss.length sc)) := G
  clear G
  by_cases hlv : (1048576 : Int) < (vs.length : Int)
  case pos =>
    go_enter Try.func17, Try.ntmps17
    go_wp2_with fail
    rw [HW0.out]
    go_ret
    exact ⟨rfl, HA.out⟩
  have lv : vs.length ≤ 1048576 := by omega
  go_enter Try.func17, Try.ntmps17
  go_wp2_with fail
  rw [HW0.out]
  clear HW0
  go_at_call 53; refine Calls.mono C0.out ?_; rintro e w1 ⟨rfl, hb1⟩
  clear C0
  have z_w1 : w0.heap.size ≤ w1.heap.size := hb1.size
  have box_1 : Hid (C3 w1 w.heap.size (.slice na zs.length nc) (.slice wa ws.length wc) (.slice sa ss.length sc)) := C3.below box_0.out hb1
  clear box_0
  have B_w1 : Below w0.heap.size w0 w1 := Below.then B_w0 hb1 B_w0.size
  clear hb1 B_w0
  by_cases hsz : ((zs.length + ws.length + ss.length : Nat) : Int) ≤ 1048576
  case neg =>
    rw [szR_neg hsz]
    go_wp2
    go_ret
    exact ⟨rfl, Below.then HA.out B_w1 HA.out.size⟩
  rw [szR_pos hsz]
  have h0 : ¬ (1048576 - ((zs.length + ws.length + ss.length : Nat) : Int) < 0) := by omega
  have h0' : 0 ≤ 1048576 - ((zs.length + ws.length + ss.length : Nat) : Int) := by omega
  have l0 : zs.length ≤ 1048576 := by omega
  have l1 : ws.length ≤ 1048576 := by omega
  have l2 : ss.length ≤ 1048576 := by omega
  have lx : (setV vs ws).length ≤ 1048576 := by have := setV_len vs ws; omega
  have CT : Hid (∀ wx, Below w0.heap.size w0 wx → Calls Try.prog 54 #[.agg #[.slice na zs.length nc, .slice wa ws.length wc, .slice sa ss.length sc]] wx fun e w' => ∃ nv' wv' sv' b0 b1 b2, e = .returned (.agg #[nv', wv', sv']) ∧ Below wx.heap.size wx w' ∧ ROwn w' nv' wv' sv' zs ws ss b0 b1 b2 ∧ (∀ b ∈ b0 ++ b1 ++ b2, wx.heap.size ≤ b ∧ b < w'.heap.size) ∧ Apart b0 b1 b2) := (show ∀ wx, _ from fun wx hb => toRun_any (HN.out wx hb) (HWr.out wx hb) (HSd.out wx hb) l0 l1 l2)
  have CV : Hid (∀ wx, Below w0.heap.size w0 wx → Calls Try.prog 56 #[.slice ba vs.length bc] wx fun e w' => ∃ v' bs, e = .returned v' ∧ Below wx.heap.size wx w' ∧ GOwn Value.bool w' v' vs bs ∧ (∀ b ∈ bs, wx.heap.size ≤ b ∧ b < w'.heap.size)) := (show ∀ wx, _ from fun wx hb => toBoolS_any (HV.out wx hb) lv)
  have CS : Hid (∀ (na sa : Option Addr) (n0 nc n2 sc : Nat) (wv bv : Value) (wx : World), LRep wx wv ws → GRep Value.bool wx bv vs → Calls Try.prog 42 #[.agg #[.slice na n0 nc, wv, .slice sa n2 sc], bv] wx fun e w' => ∃ v' bs, e = .returned v' ∧ Below wx.heap.size wx w' ∧ LOwn w' v' (setV vs ws) bs ∧ (∀ b ∈ bs, wx.heap.size ≤ b ∧ b < w'.heap.size)) := (show ∀ (na sa : Option Addr) (n0 nc n2 sc : Nat) (wv bv : Value) (wx : World), LRep wx wv ws → GRep Value.bool wx bv vs → _ from fun _ _ _ _ _ _ _ _ _ h k => sRunSets_any h k l1)
  have CI : Hid (∀ (na sa : Option Addr) (n0 nc n2 sc : Nat) (wv bv : Value) (wx : World), LRep wx wv ws → GRep Value.bool wx bv vs → Calls Try.prog 40 #[.agg #[.slice na n0 nc, wv, .slice sa n2 sc], bv] wx fun e w' => ∃ v' bs, e = .returned v' ∧ Below wx.heap.size wx w' ∧ LOwn w' v' (setV vs ws) bs ∧ (∀ b ∈ bs, wx.heap.size ≤ b ∧ b < w'.heap.size)) := (show ∀ (na sa : Option Addr) (n0 nc n2 sc : Nat) (wv bv : Value) (wx : World), LRep wx wv ws → GRep Value.bool wx bv vs → _ from fun _ _ _ _ _ _ _ _ _ h k => runSets_any h k l1)
  generalize setV vs ws = xs at CS CI lx
  generalize 1048576 - ((zs.length + ws.length + ss.length : Nat) : Int) = z at h0 h0' ⊢
  obtain ⟨⟨x0, x1, x2⟩, -⟩ := box_1.out
  go_wp2_with fail
  clear x0 x1 x2
  go_at_call 54; refine (CT.out _ B_w1).mono ?_
  rintro e w2 ⟨nv1, wv1, sv1, p10, p11, p12, rfl, hb_w2, o1, r1, -⟩
  obtain ⟨na1, nc1, rfl, -⟩ := o1.n.rep
  obtain ⟨wa1, wc1, rfl, -⟩ := o1.wr.rep
  obtain ⟨sa1, sc1, rfl, -⟩ := o1.sd.rep
  have z_w2 : w1.heap.size ≤ w2.heap.size := hb_w2.size
  have box_2 : Hid (C3 w2 w.heap.size (.slice na zs.length nc) (.slice wa ws.length wc) (.slice sa ss.length sc)) := C3.below box_1.out hb_w2
  clear box_1
  have B_w2 : Below w0.heap.size w0 w2 := Below.then B_w1 hb_w2 B_w1.size
  clear hb_w2 B_w1
  have RX1 : Hid (∀ b ∈ p10 ++ p11 ++ p12, w1.heap.size ≤ b ∧ b < w2.heap.size) := r1
  have xo1_0 : Hid (ROwn w2 (.slice na1 zs.length nc1) (.slice wa1 ws.length wc1) (.slice sa1 ss.length sc1) zs ws ss p10 p11 p12) := o1
  clear o1 r1
  go_wp2_with fail
  go_at_call 56; refine (CV.out _ B_w2).mono ?_
  rintro e w3 ⟨bv1, q1, rfl, hb_w3, ob1, rb1⟩
  obtain ⟨ba1, bc1, rfl, -⟩ := ob1.rep
  have z_w3 : w2.heap.size ≤ w3.heap.size := hb_w3.size
  have box_3 : Hid (C3 w3 w.heap.size (.slice na zs.length nc) (.slice wa ws.length wc) (.slice sa ss.length sc)) := C3.below box_2.out hb_w3
  clear box_2
  have xo1_1 : Hid (ROwn w3 (.slice na1 zs.length nc1) (.slice wa1 ws.length wc1) (.slice sa1 ss.length sc1) zs ws ss p10 p11 p12) := ROwn.frame xo1_0.out (fun b hb' => hb_w3.block b (by have := RX1.out b hb'; omega))
  clear xo1_0
  have B_w3 : Below w0.heap.size w0 w3 := Below.then B_w2 hb_w3 B_w2.size
  clear hb_w3 B_w2
  have RB1 : Hid (∀ b ∈ q1, w2.heap.size ≤ b ∧ b < w3.heap.size) := rb1
  have xv1_0 : Hid (GOwn Value.bool w3 (.slice ba1 vs.length bc1) vs q1) := ob1
  clear ob1 rb1
  have CC_w4 : Hid _ := CS.out na1 sa1 zs.length nc1 ss.length sc1 _ _ _ xo1_1.out.wr.rep xv1_0.out.rep
  clear xo1_1
  clear xv1_0
  go_wp2_with fail
  go_at_call 42; refine Calls.mono CC_w4.out ?_
  rintro e w4 ⟨cv, cb, rfl, hb_w4, oc, rc⟩
  obtain ⟨ca, cc, rfl, -⟩ := oc.rep
  clear CC_w4
  have z_w4 : w3.heap.size ≤ w4.heap.size := hb_w4.size
  have box_4 : Hid (C3 w4 w.heap.size (.slice na zs.length nc) (.slice wa ws.length wc) (.slice sa ss.length sc)) := C3.below box_3.out hb_w4
  clear box_3
  have B_w4 : Below w0.heap.size w0 w4 := Below.then B_w3 hb_w4 B_w3.size
  clear hb_w4 B_w3
  have Rc : Hid (∀ b ∈ cb, w3.heap.size ≤ b ∧ b < w4.heap.size) := rc
  have c_0 : Hid (LOwn w4 (.slice ca xs.length cc) xs cb) := oc
  clear oc rc
  obtain ⟨⟨x0, x1, x2⟩, -⟩ := box_4.out
  go_wp2_with fail
  clear x0 x1 x2
  go_at_call 54; refine (CT.out _ B_w4).mono ?_
  rintro e w5 ⟨nv2, wv2, sv2, p20, p21, p22, rfl, hb_w5, o2, r2, ap2⟩
  obtain ⟨na2, nc2, rfl, -⟩ := o2.n.rep
  obtain ⟨wa2, wc2, rfl, -⟩ := o2.wr.rep
  obtain ⟨sa2, sc2, rfl, -⟩ := o2.sd.rep
  have z_w5 : w4.heap.size ≤ w5.heap.size := hb_w5.size
  have box_5 : Hid (C3 w5 w.heap.size (.slice na zs.length nc) (.slice wa ws.length wc) (.slice sa ss.length sc)) := C3.below box_4.out hb_w5
  clear box_4
  have c_1 : Hid (LOwn w5 (.slice ca xs.length cc) xs cb) := LOwn.frame (fun b hb' => hb_w5.block b (by have := Rc.out b hb'; omega)) c_0.out
  clear c_0
  have B_w5 : Below w0.heap.size w0 w5 := Below.then B_w4 hb_w5 B_w4.size
  clear hb_w5 B_w4
  have RX2 : Hid (∀ b ∈ p20 ++ p21 ++ p22, w4.heap.size ≤ b ∧ b < w5.heap.size) := r2
  have xo2_0 : Hid (ROwn w5 (.slice na2 zs.length nc2) (.slice wa2 ws.length wc2) (.slice sa2 ss.length sc2) zs ws ss p20 p21 p22) := o2
  clear o2 r2
  have hb_w6 : Below w5.heap.size w5 (w5.alloc (.cells #[.slice na2 zs.length nc2, .slice wa2 ws.length wc2, .slice sa2 ss.length sc2] 47)) := (Below.refl _ _).alloc (Nat.le_refl _) _
  have G6 := C3.new w5 (.slice na2 zs.length nc2) (.slice wa2 ws.length wc2) (.slice sa2 ss.length sc2) 47
  have z6 : (w5.alloc (.cells #[.slice na2 zs.length nc2, .slice wa2 ws.length wc2, .slice sa2 ss.length sc2] 47)).heap.size = w5.heap.size + 1 := by simp
  generalize hw6 : w5.alloc (.cells #[.slice na2 zs.length nc2, .slice wa2 ws.length wc2, .slice sa2 ss.length sc2] 47) = w6 at hb_w6 G6 z6
  have HW6 : Hid _ := hw6
  have HZ6 : Hid (w6.heap.size = w5.heap.size + 1) := z6
  clear hw6 z6
  have z_w6 : w5.heap.size ≤ w6.heap.size := hb_w6.size
  have box_6 : Hid (C3 w6 w.heap.size (.slice na zs.length nc) (.slice wa ws.length wc) (.slice sa ss.length sc)) := C3.below box_5.out hb_w6
  clear box_5
  have c_2 : Hid (LOwn w6 (.slice ca xs.length cc) xs cb) := LOwn.frame (fun b hb' => hb_w6.block b (by have := Rc.out b hb'; omega)) c_1.out
  clear c_1
  have xo2_1 : Hid (ROwn w6 (.slice na2 zs.length nc2) (.slice wa2 ws.length wc2) (.slice sa2 ss.length sc2) zs ws ss p20 p21 p22) := ROwn.frame xo2_0.out (fun b hb' => hb_w6.block b (by have := RX2.out b hb'; omega))
  clear xo2_0
  have B_w6 : Below w0.heap.size w0 w6 := Below.then B_w5 hb_w6 B_w5.size
  clear hb_w6 B_w5
  have xb_0 : Hid (C3 w6 w5.heap.size (.slice na2 zs.length nc2) (.slice wa2 ws.length wc2) (.slice sa2 ss.length sc2)) := G6
  clear G6
  go_wp2_with fail
  rw [HW6.out]
  clear HW6
  go_at_call 56; refine (CV.out _ B_w6).mono ?_
  rintro e w7 ⟨bv2, q2, rfl, hb_w7, ob2, rb2⟩
  obtain ⟨ba2, bc2, rfl, -⟩ := ob2.rep
  have z_w7 : w6.heap.size ≤ w7.heap.size := hb_w7.size
  have box_7 : Hid (C3 w7 w.heap.size (.slice na zs.length nc) (.slice wa ws.length wc) (.slice sa ss.length sc)) := C3.below box_6.out hb_w7
  clear box_6
  have c_3 : Hid (LOwn w7 (.slice ca xs.length cc) xs cb) := LOwn.frame (fun b hb' => hb_w7.block b (by have := Rc.out b hb'; omega)) c_2.out
  clear c_2
  have xo2_2 : Hid (ROwn w7 (.slice na2 zs.length nc2) (.slice wa2 ws.length wc2) (.slice sa2 ss.length sc2) zs ws ss p20 p21 p22) := ROwn.frame xo2_1.out (fun b hb' => hb_w7.block b (by have := RX2.out b hb'; omega))
  clear xo2_1
  have xb_1 : Hid (C3 w7 w5.heap.size (.slice na2 zs.length nc2) (.slice wa2 ws.length wc2) (.slice sa2 ss.length sc2)) := C3.below xb_0.out hb_w7
  clear xb_0
  have B_w7 : Below w0.heap.size w0 w7 := Below.then B_w6 hb_w7 B_w6.size
  clear hb_w7 B_w6
  have RB2 : Hid (∀ b ∈ q2, w6.heap.size ≤ b ∧ b < w7.heap.size) := rb2
  have xv2_0 : Hid (GOwn Value.bool w7 (.slice ba2 vs.length bc2) vs q2) := ob2
  clear ob2 rb2
  obtain ⟨⟨y0, y1, y2⟩, -⟩ := xb_1.out
  have CC_w8 : Hid _ := CI.out na2 sa2 zs.length nc2 ss.length sc2 _ _ _ xo2_2.out.wr.rep xv2_0.out.rep
  go_wp2_with fail
  clear y0 y1 y2
  go_at_call 40; refine Calls.mono CC_w8.out ?_
  rintro e w8 ⟨gv, gb, rfl, hb_w8, og, rg⟩
  obtain ⟨ga, gc, rfl, -⟩ := og.rep
  clear CC_w8
  have z_w8 : w7.heap.size ≤ w8.heap.size := hb_w8.size
  have box_8 : Hid (C3 w8 w.heap.size (.slice na zs.length nc) (.slice wa ws.length wc) (.slice sa ss.length sc)) := C3.below box_7.out hb_w8
  clear box_7
  have c_4 : Hid (LOwn w8 (.slice ca xs.length cc) xs cb) := LOwn.frame (fun b hb' => hb_w8.block b (by have := Rc.out b hb'; omega)) c_3.out
  clear c_3
  have xo2_3 : Hid (ROwn w8 (.slice na2 zs.length nc2) (.slice wa2 ws.length wc2) (.slice sa2 ss.length sc2) zs ws ss p20 p21 p22) := ROwn.frame xo2_2.out (fun b hb' => hb_w8.block b (by have := RX2.out b hb'; omega))
  clear xo2_2
  have xb_2 : Hid (C3 w8 w5.heap.size (.slice na2 zs.length nc2) (.slice wa2 ws.length wc2) (.slice sa2 ss.length sc2)) := C3.below xb_1.out hb_w8
  clear xb_1
  have xv2_1 : Hid (GOwn Value.bool w8 (.slice ba2 vs.length bc2) vs q2) := GOwn.frame (fun b hb' => hb_w8.block b (by have := RB2.out b hb'; omega)) xv2_0.out
  clear xv2_0
  have B_w8 : Below w0.heap.size w0 w8 := Below.then B_w7 hb_w8 B_w7.size
  clear hb_w8 B_w7
  have Rg : Hid (∀ b ∈ gb, w7.heap.size ≤ b ∧ b < w8.heap.size) := rg
  have g_0 : Hid (LOwn w8 (.slice ga xs.length gc) xs gb) := og
  clear og rg
  have CE_w9 : Hid _ := eqWriteS_same g_0.out.rep c_4.out.rep
  go_wp2_with fail
  go_at_call 57; refine Calls.mono CE_w9.out ?_
  rintro e w9 ⟨rfl, hb_w9⟩
  clear CE_w9
  have z_w9 : w8.heap.size ≤ w9.heap.size := hb_w9.size
  have box_9 : Hid (C3 w9 w.heap.size (.slice na zs.length nc) (.slice wa ws.length wc) (.slice sa ss.length sc)) := C3.below box_8.out hb_w9
  clear box_8
  have c_5 : Hid (LOwn w9 (.slice ca xs.length cc) xs cb) := LOwn.frame (fun b hb' => hb_w9.block b (by have := Rc.out b hb'; omega)) c_4.out
  clear c_4
  have xo2_4 : Hid (ROwn w9 (.slice na2 zs.length nc2) (.slice wa2 ws.length wc2) (.slice sa2 ss.length sc2) zs ws ss p20 p21 p22) := ROwn.frame xo2_3.out (fun b hb' => hb_w9.block b (by have := RX2.out b hb'; omega))
  clear xo2_3
  have xb_3 : Hid (C3 w9 w5.heap.size (.slice na2 zs.length nc2) (.slice wa2 ws.length wc2) (.slice sa2 ss.length sc2)) := C3.below xb_2.out hb_w9
  clear xb_2
  have xv2_2 : Hid (GOwn Value.bool w9 (.slice ba2 vs.length bc2) vs q2) := GOwn.frame (fun b hb' => hb_w9.block b (by have := RB2.out b hb'; omega)) xv2_1.out
  clear xv2_1
  have g_1 : Hid (LOwn w9 (.slice ga xs.length gc) xs gb) := LOwn.frame (fun b hb' => hb_w9.block b (by have := Rg.out b hb'; omega)) g_0.out
  clear g_0
  have B_w9 : Below w0.heap.size w0 w9 := Below.then B_w8 hb_w9 B_w8.size
  clear hb_w9 B_w8
  obtain ⟨⟨x0, x1, x2⟩, -⟩ := box_9.out
  obtain ⟨⟨y0, y1, y2⟩, -⟩ := xb_3.out
  go_wp2_with fail
  refine wp_region_held (S := (fun wz => (wz.cell? ⟨w.heap.size, 0, none⟩ = some (.slice na zs.length nc) ∧ wz.cell? ⟨w.heap.size, 1, none⟩ = some (.slice wa ws.length wc) ∧ wz.cell? ⟨w.heap.size, 2, none⟩ = some (.slice sa ss.length sc)) ∧ (wz.cell? ⟨w5.heap.size, 0, none⟩ = some (.slice na2 zs.length nc2) ∧ wz.cell? ⟨w5.heap.size, 1, none⟩ = some (.slice wa2 ws.length wc2) ∧ wz.cell? ⟨w5.heap.size, 2, none⟩ = some (.slice sa2 ss.length sc2)) ∧ Below w9.heap.size w9 wz)) (by kernel_rfl) ?_
  change wpAnyH _ _ _ _ _ _ _ _ (World.drew _)
  have hHeld := SR1 ⟨⟨x0, x1, x2⟩, ⟨y0, y1, y2⟩, Below.refl w9.heap.size w9⟩
  refine' wpAnyH_take (i := 0) (v := .agg #[.slice na2 zs.length nc2, .slice wa2 ws.length wc2, .slice sa2 ss.length sc2]) rfl (by kernel_rfl) (by kernel_rfl) (by kernel_rfl) (fun _ _ _ h => h) (Or.inl ⟨by rfl, ?hy1⟩) hHeld ?hn1
  case hy1 => (intro wz hSw; obtain ⟨_, ⟨k0, k1, k2⟩, _⟩ := hSw; go_simp)
  try simp only [List.getElem_toArray, List.getElem_cons_zero, List.getElem_cons_succ, Act.put, List.setIfInBounds_toArray, List.set_cons_zero, List.set_cons_succ]
  refine' wpAnyH_take (i := 1) (v := .agg #[.slice na zs.length nc, .slice wa ws.length wc, .slice sa ss.length sc]) rfl (by kernel_rfl) (by kernel_rfl) (by kernel_rfl) (fun _ _ _ h => h) (Or.inl ⟨by rfl, ?hy2⟩) hHeld ?hn2
  case hy2 => (intro wz hSw; obtain ⟨⟨k0, k1, k2⟩, _, _⟩ := hSw; go_simp)
  try simp only [List.getElem_toArray, List.getElem_cons_zero, List.getElem_cons_succ, Act.put, List.setIfInBounds_toArray, List.set_cons_zero, List.set_cons_succ]
  refine wpAnyH_ready (rs := [2]) (by kernel_rfl) (by simp) ?_
  refine AllReadyH.cons rfl (fun K hK => ?_) AllReadyH.nil
  go_simp
  refine (CT.out _ (Below.then B_w9 hHeld.2.2 B_w9.size)).mono ?_; rintro e' w10 ⟨nv3, wv3, sv3, _, _, _, rfl, hbx, o3, -, -⟩; obtain ⟨na3, nc3, rfl, -⟩ := o3.n.rep; obtain ⟨wa3, wc3, rfl, -⟩ := o3.wr.rep; obtain ⟨sa3, sc3, rfl, -⟩ := o3.sd.rep; have CE : Hid _ := eqRun_same (GRep.below (Below.then hHeld.2.2 hbx hHeld.2.2.size) xo2_4.out.n.rep) (LRep.below (Below.then hHeld.2.2 hbx hHeld.2.2.size) xo2_4.out.wr.rep) (LRep.below (Below.then hHeld.2.2 hbx hHeld.2.2.size) xo2_4.out.sd.rep) o3.n.rep o3.wr.rep o3.sd.rep
  refine hK.out _ _ (SR2 hHeld hbx) (fun hHeld => ?_)
  clear hK K
  refine wpAnyH_ready (rs := [3]) (by kernel_rfl) (by simp) ?_
  refine AllReadyH.cons rfl (fun K hK => ?_) AllReadyH.nil
  go_simp
  refine Calls.mono CE.out ?_; rintro e' w11 ⟨rfl, hbx⟩
  refine hK.out _ _ (SR2 hHeld hbx) (fun hHeld => ?_)
  clear hK K
  refine' wpAnyH_take (i := 4) (v := _) rfl (by kernel_rfl) (by kernel_rfl) (by kernel_rfl) (fun _ _ _ h => h) (Or.inl ⟨by rfl, ?hy3⟩) hHeld ?hn3
  case hy3 => (intro wz hSw; (try dsimp only at hSw); go_simp; first | done | with_reducible rfl)
  try simp only [List.getElem_toArray, List.getElem_cons_zero, List.getElem_cons_succ, Act.put, List.setIfInBounds_toArray, List.set_cons_zero, List.set_cons_succ]
  refine wpAnyH_done (by kernel_rfl) ?_ _
  clear x0 x1 x2 y0 y1 y2
  obtain ⟨-, -, hb_w11⟩ := hHeld
  clear CE
  have z_w11 : w9.heap.size ≤ w11.heap.size := hb_w11.size
  have box_10 : Hid (C3 w11 w.heap.size (.slice na zs.length nc) (.slice wa ws.length wc) (.slice sa ss.length sc)) := C3.below box_9.out hb_w11
  clear box_9
  have c_6 : Hid (LOwn w11 (.slice ca xs.length cc) xs cb) := LOwn.frame (fun b hb' => hb_w11.block b (by have := Rc.out b hb'; omega)) c_5.out
  clear c_5
  have xo2_5 : Hid (ROwn w11 (.slice na2 zs.length nc2) (.slice wa2 ws.length wc2) (.slice sa2 ss.length sc2) zs ws ss p20 p21 p22) := ROwn.frame xo2_4.out (fun b hb' => hb_w11.block b (by have := RX2.out b hb'; omega))
  clear xo2_4
  have xb_4 : Hid (C3 w11 w5.heap.size (.slice na2 zs.length nc2) (.slice wa2 ws.length wc2) (.slice sa2 ss.length sc2)) := C3.below xb_3.out hb_w11
  clear xb_3
  have xv2_3 : Hid (GOwn Value.bool w11 (.slice ba2 vs.length bc2) vs q2) := GOwn.frame (fun b hb' => hb_w11.block b (by have := RB2.out b hb'; omega)) xv2_2.out
  clear xv2_2
  have g_2 : Hid (LOwn w11 (.slice ga xs.length gc) xs gb) := LOwn.frame (fun b hb' => hb_w11.block b (by have := Rg.out b hb'; omega)) g_1.out
  clear g_1
  have B_w11 : Below w0.heap.size w0 w11 := Below.then B_w9 hb_w11 B_w9.size
  clear hb_w11 B_w9
  go_wp2_with fail
  go_at_call 56; refine (CV.out _ B_w11).mono ?_
  rintro e w12 ⟨bv5, q5, rfl, hb_w12, ob5, rb5⟩
  obtain ⟨ba5, bc5, rfl, -⟩ := ob5.rep
  have z_w12 : w11.heap.size ≤ w12.heap.size := hb_w12.size
  have box_11 : Hid (C3 w12 w.heap.size (.slice na zs.length nc) (.slice wa ws.length wc) (.slice sa ss.length sc)) := C3.below box_10.out hb_w12
  clear box_10
  have c_7 : Hid (LOwn w12 (.slice ca xs.length cc) xs cb) := LOwn.frame (fun b hb' => hb_w12.block b (by have := Rc.out b hb'; omega)) c_6.out
  clear c_6
  have xo2_6 : Hid (ROwn w12 (.slice na2 zs.length nc2) (.slice wa2 ws.length wc2) (.slice sa2 ss.length sc2) zs ws ss p20 p21 p22) := ROwn.frame xo2_5.out (fun b hb' => hb_w12.block b (by have := RX2.out b hb'; omega))
  clear xo2_5
  have xb_5 : Hid (C3 w12 w5.heap.size (.slice na2 zs.length nc2) (.slice wa2 ws.length wc2) (.slice sa2 ss.length sc2)) := C3.below xb_4.out hb_w12
  clear xb_4
  have xv2_4 : Hid (GOwn Value.bool w12 (.slice ba2 vs.length bc2) vs q2) := GOwn.frame (fun b hb' => hb_w12.block b (by have := RB2.out b hb'; omega)) xv2_3.out
  clear xv2_3
  have g_3 : Hid (LOwn w12 (.slice ga xs.length gc) xs gb) := LOwn.frame (fun b hb' => hb_w12.block b (by have := Rg.out b hb'; omega)) g_2.out
  clear g_2
  have B_w12 : Below w0.heap.size w0 w12 := Below.then B_w11 hb_w12 B_w11.size
  clear hb_w12 B_w11
  have RB5 : Hid (∀ b ∈ q5, w11.heap.size ≤ b ∧ b < w12.heap.size) := rb5
  have xv5_0 : Hid (GOwn Value.bool w12 (.slice ba5 vs.length bc5) vs q5) := ob5
  clear ob5 rb5
  have CEb : Hid _ := eqBoolS_same xv2_4.out.rep xv5_0.out.rep
  clear xv5_0
  go_wp2_with fail
  go_at_call 58; refine Calls.mono CEb.out ?_
  rintro e w13 ⟨rfl, hb_w13⟩
  clear CEb
  have z_w13 : w12.heap.size ≤ w13.heap.size := hb_w13.size
  have box_12 : Hid (C3 w13 w.heap.size (.slice na zs.length nc) (.slice wa ws.length wc) (.slice sa ss.length sc)) := C3.below box_11.out hb_w13
  clear box_11
  have c_8 : Hid (LOwn w13 (.slice ca xs.length cc) xs cb) := LOwn.frame (fun b hb' => hb_w13.block b (by have := Rc.out b hb'; omega)) c_7.out
  clear c_7
  have xo2_7 : Hid (ROwn w13 (.slice na2 zs.length nc2) (.slice wa2 ws.length wc2) (.slice sa2 ss.length sc2) zs ws ss p20 p21 p22) := ROwn.frame xo2_6.out (fun b hb' => hb_w13.block b (by have := RX2.out b hb'; omega))
  clear xo2_6
  have xb_6 : Hid (C3 w13 w5.heap.size (.slice na2 zs.length nc2) (.slice wa2 ws.length wc2) (.slice sa2 ss.length sc2)) := C3.below xb_5.out hb_w13
  clear xb_5
  have xv2_5 : Hid (GOwn Value.bool w13 (.slice ba2 vs.length bc2) vs q2) := GOwn.frame (fun b hb' => hb_w13.block b (by have := RB2.out b hb'; omega)) xv2_4.out
  clear xv2_4
  have g_4 : Hid (LOwn w13 (.slice ga xs.length gc) xs gb) := LOwn.frame (fun b hb' => hb_w13.block b (by have := Rg.out b hb'; omega)) g_3.out
  clear g_3
  have B_w13 : Below w0.heap.size w0 w13 := Below.then B_w12 hb_w13 B_w12.size
  clear hb_w13 B_w12
  have CM : Hid _ := markRun_any xo2_7.out (fun b hb' => by have := RX2.out b hb'; omega) ap2 l0 l1 l2
  obtain ⟨⟨y0, y1, y2⟩, -⟩ := xb_6.out
  go_wp2_with fail
  clear y0 y1 y2
  go_at_call 51; refine Calls.mono CM.out ?_
  rintro e w14 ⟨rfl, fs14, -⟩
  clear xo2_7
  clear xb_6
  have := HZ6.out
  have := HS0.out
  have z_w14 : w13.heap.size ≤ w14.heap.size := fs14.size
  have box_13 : Hid (C3 w14 w.heap.size (.slice na zs.length nc) (.slice wa ws.length wc) (.slice sa ss.length sc)) := C3.frame box_12.out (fs14.block w.heap.size (C3.lt box_12.out) (fun hm => by have := RX2.out _ hm; omega))
  clear box_12
  have c_9 : Hid (LOwn w14 (.slice ca xs.length cc) xs cb) := LOwn.frame (fun b hb' => fs14.block b (by have := Rc.out b hb'; omega) (fun hm => by have := RX2.out b hm; have := Rc.out b hb'; omega)) c_8.out
  clear c_8
  have xv2_6 : Hid (GOwn Value.bool w14 (.slice ba2 vs.length bc2) vs q2) := GOwn.frame (fun b hb' => fs14.block b (by have := RB2.out b hb'; omega) (fun hm => by have := RX2.out b hm; have := RB2.out b hb'; omega)) xv2_5.out
  clear xv2_5
  have g_5 : Hid (LOwn w14 (.slice ga xs.length gc) xs gb) := LOwn.frame (fun b hb' => fs14.block b (by have := Rg.out b hb'; omega) (fun hm => by have := RX2.out b hm; have := Rg.out b hb'; omega)) g_4.out
  clear g_4
  have B_w14 : Below w0.heap.size w0 w14 := B_w13.trans (fs14.below (fun b hb' => by have := RX2.out b hb'; omega) B_w13.size)
  clear B_w13
  clear fs14 CM
  have k0 : 0 ≤ 1 + (zs.length : Int) + 2 * (ws.length : Int) + 2 * (ss.length : Int) := by omega
  have k1 : 1 + (zs.length : Int) + 2 * (ws.length : Int) + 2 * (ss.length : Int) ≤ 16777216 := by omega
  generalize 1 + (zs.length : Int) + 2 * (ws.length : Int) + 2 * (ss.length : Int) = kk at k0 k1 ⊢
  have CB : Hid _ := markBoolS_any (k := kk) xv2_6.out k0 (by omega)
  clear xv2_6
  go_wp2_with fail
  go_at_call 59; refine Calls.mono CB.out ?_
  rintro e w15 ⟨rfl, fr15⟩
  have fs15 : Fs q2 w14 w15 := Fs.of_fr fr15
  clear fr15 CB
  have z_w15 : w14.heap.size ≤ w15.heap.size := fs15.size
  have box_14 : Hid (C3 w15 w.heap.size (.slice na zs.length nc) (.slice wa ws.length wc) (.slice sa ss.length sc)) := C3.frame box_13.out (fs15.block w.heap.size (C3.lt box_13.out) (fun hm => by have := RB2.out _ hm; omega))
  clear box_13
  have c_10 : Hid (LOwn w15 (.slice ca xs.length cc) xs cb) := LOwn.frame (fun b hb' => fs15.block b (by have := Rc.out b hb'; omega) (fun hm => by have := RB2.out b hm; have := Rc.out b hb'; omega)) c_9.out
  clear c_9
  have g_6 : Hid (LOwn w15 (.slice ga xs.length gc) xs gb) := LOwn.frame (fun b hb' => fs15.block b (by have := Rg.out b hb'; omega) (fun hm => by have := RB2.out b hm; have := Rg.out b hb'; omega)) g_5.out
  clear g_5
  have B_w15 : Below w0.heap.size w0 w15 := B_w14.trans (fs15.below (fun b hb' => by have := RB2.out b hb'; omega) B_w14.size)
  clear B_w14
  clear fs15
  have k2 : 0 ≤ kk + (vs.length : Int) := by omega
  have k3 : ¬ (kk + (vs.length : Int) < 0) := by omega
  generalize kk + (vs.length : Int) = k5 at k2 k3 ⊢
  have CE_w16 : Hid _ := eqWriteS_same g_6.out.rep c_10.out.rep
  go_wp2_with fail
  go_at_call 57; refine Calls.mono CE_w16.out ?_
  rintro e w16 ⟨rfl, hb_w16⟩
  clear CE_w16
  have z_w16 : w15.heap.size ≤ w16.heap.size := hb_w16.size
  have box_15 : Hid (C3 w16 w.heap.size (.slice na zs.length nc) (.slice wa ws.length wc) (.slice sa ss.length sc)) := C3.below box_14.out hb_w16
  clear box_14
  have c_11 : Hid (LOwn w16 (.slice ca xs.length cc) xs cb) := LOwn.frame (fun b hb' => hb_w16.block b (by have := Rc.out b hb'; omega)) c_10.out
  clear c_10
  have g_7 : Hid (LOwn w16 (.slice ga xs.length gc) xs gb) := LOwn.frame (fun b hb' => hb_w16.block b (by have := Rg.out b hb'; omega)) g_6.out
  clear g_6
  have B_w16 : Below w0.heap.size w0 w16 := Below.then B_w15 hb_w16 B_w15.size
  clear hb_w16 B_w15
  have CN : Hid _ := markWriteS_any (k := 1) g_7.out (by decide) (by omega)
  go_wp2_with fail
  go_at_call 60; refine Calls.mono CN.out ?_
  rintro e w17 ⟨rfl, fr17, og⟩
  clear g_7
  have fs17 : Fs gb w16 w17 := Fs.of_fr fr17
  clear fr17 CN
  have z_w17 : w16.heap.size ≤ w17.heap.size := fs17.size
  have box_16 : Hid (C3 w17 w.heap.size (.slice na zs.length nc) (.slice wa ws.length wc) (.slice sa ss.length sc)) := C3.frame box_15.out (fs17.block w.heap.size (C3.lt box_15.out) (fun hm => by have := Rg.out _ hm; omega))
  clear box_15
  have c_12 : Hid (LOwn w17 (.slice ca xs.length cc) xs cb) := LOwn.frame (fun b hb' => fs17.block b (by have := Rc.out b hb'; omega) (fun hm => by have := Rg.out b hm; have := Rc.out b hb'; omega)) c_11.out
  clear c_11
  have B_w17 : Below w0.heap.size w0 w17 := B_w16.trans (fs17.below (fun b hb' => by have := Rg.out b hb'; omega) B_w16.size)
  clear B_w16
  have g_0 : Hid (LOwn w17 (.slice ga xs.length gc) (pf 1 xs.length) gb) := og
  clear og fs17
  have m0 : 0 ≤ 1 + 2 * (xs.length : Int) := by omega
  have m1 : ¬ (1 + 2 * (xs.length : Int) < 0) := by omega
  obtain ⟨mm, hmm⟩ : ∃ m : Int, 1 + 2 * (xs.length : Int) = m := ⟨_, rfl⟩
  rw [hmm] at m0 m1 ⊢
  have HMM : Hid _ := hmm
  clear hmm
  have CH_w18 : Hid _ := heldWriteS_any (n := xs.length) (k := 1) g_0.out.rep (by decide) (by omega)
  go_wp2_with fail
  go_at_call 61; refine Calls.mono CH_w18.out ?_
  rintro e w18 ⟨rfl, hb_w18⟩
  rw [HMM.out]
  clear CH_w18
  have z_w18 : w17.heap.size ≤ w18.heap.size := hb_w18.size
  have box_17 : Hid (C3 w18 w.heap.size (.slice na zs.length nc) (.slice wa ws.length wc) (.slice sa ss.length sc)) := C3.below box_16.out hb_w18
  clear box_16
  have c_13 : Hid (LOwn w18 (.slice ca xs.length cc) xs cb) := LOwn.frame (fun b hb' => hb_w18.block b (by have := Rc.out b hb'; omega)) c_12.out
  clear c_12
  have g_1 : Hid (LOwn w18 (.slice ga xs.length gc) (pf 1 xs.length) gb) := LOwn.frame (fun b hb' => hb_w18.block b (by have := Rg.out b hb'; omega)) g_0.out
  clear g_0
  have B_w18 : Below w0.heap.size w0 w18 := Below.then B_w17 hb_w18 B_w17.size
  clear hb_w18 B_w17
  obtain ⟨⟨x0, x1, x2⟩, -⟩ := box_17.out
  go_wp2_with fail
  clear x0 x1 x2
  go_at_call 54; refine (CT.out _ B_w18).mono ?_
  rintro e w19 ⟨nv4, wv4, sv4, p40, p41, p42, rfl, hb_w19, o4, r4, -⟩
  obtain ⟨na4, nc4, rfl, -⟩ := o4.n.rep
  obtain ⟨wa4, wc4, rfl, -⟩ := o4.wr.rep
  obtain ⟨sa4, sc4, rfl, -⟩ := o4.sd.rep
  have z_w19 : w18.heap.size ≤ w19.heap.size := hb_w19.size
  have box_18 : Hid (C3 w19 w.heap.size (.slice na zs.length nc) (.slice wa ws.length wc) (.slice sa ss.length sc)) := C3.below box_17.out hb_w19
  clear box_17
  have c_14 : Hid (LOwn w19 (.slice ca xs.length cc) xs cb) := LOwn.frame (fun b hb' => hb_w19.block b (by have := Rc.out b hb'; omega)) c_13.out
  clear c_13
  have g_2 : Hid (LOwn w19 (.slice ga xs.length gc) (pf 1 xs.length) gb) := LOwn.frame (fun b hb' => hb_w19.block b (by have := Rg.out b hb'; omega)) g_1.out
  clear g_1
  have B_w19 : Below w0.heap.size w0 w19 := Below.then B_w18 hb_w19 B_w18.size
  clear hb_w19 B_w18
  have RX4 : Hid (∀ b ∈ p40 ++ p41 ++ p42, w18.heap.size ≤ b ∧ b < w19.heap.size) := r4
  have xo4_0 : Hid (ROwn w19 (.slice na4 zs.length nc4) (.slice wa4 ws.length wc4) (.slice sa4 ss.length sc4) zs ws ss p40 p41 p42) := o4
  clear o4 r4
  go_wp2_with fail
  go_at_call 56; refine (CV.out _ B_w19).mono ?_
  rintro e w20 ⟨bv4, q4, rfl, hb_w20, ob4, rb4⟩
  obtain ⟨ba4, bc4, rfl, -⟩ := ob4.rep
  have z_w20 : w19.heap.size ≤ w20.heap.size := hb_w20.size
  have box_19 : Hid (C3 w20 w.heap.size (.slice na zs.length nc) (.slice wa ws.length wc) (.slice sa ss.length sc)) := C3.below box_18.out hb_w20
  clear box_18
  have c_15 : Hid (LOwn w20 (.slice ca xs.length cc) xs cb) := LOwn.frame (fun b hb' => hb_w20.block b (by have := Rc.out b hb'; omega)) c_14.out
  clear c_14
  have g_3 : Hid (LOwn w20 (.slice ga xs.length gc) (pf 1 xs.length) gb) := LOwn.frame (fun b hb' => hb_w20.block b (by have := Rg.out b hb'; omega)) g_2.out
  clear g_2
  have xo4_1 : Hid (ROwn w20 (.slice na4 zs.length nc4) (.slice wa4 ws.length wc4) (.slice sa4 ss.length sc4) zs ws ss p40 p41 p42) := ROwn.frame xo4_0.out (fun b hb' => hb_w20.block b (by have := RX4.out b hb'; omega))
  clear xo4_0
  have B_w20 : Below w0.heap.size w0 w20 := Below.then B_w19 hb_w20 B_w19.size
  clear hb_w20 B_w19
  have RB4 : Hid (∀ b ∈ q4, w19.heap.size ≤ b ∧ b < w20.heap.size) := rb4
  have xv4_0 : Hid (GOwn Value.bool w20 (.slice ba4 vs.length bc4) vs q4) := ob4
  clear ob4 rb4
  have CC_w21 : Hid _ := CI.out na4 sa4 zs.length nc4 ss.length sc4 _ _ _ xo4_1.out.wr.rep xv4_0.out.rep
  clear xo4_1
  clear xv4_0
  go_wp2_with fail
  go_at_call 40; refine Calls.mono CC_w21.out ?_
  rintro e w21 ⟨hv, hb, rfl, hb_w21, oh, rh⟩
  obtain ⟨ha, hc, rfl, -⟩ := oh.rep
  clear CC_w21
  have z_w21 : w20.heap.size ≤ w21.heap.size := hb_w21.size
  have box_20 : Hid (C3 w21 w.heap.size (.slice na zs.length nc) (.slice wa ws.length wc) (.slice sa ss.length sc)) := C3.below box_19.out hb_w21
  clear box_19
  have c_16 : Hid (LOwn w21 (.slice ca xs.length cc) xs cb) := LOwn.frame (fun b hb' => hb_w21.block b (by have := Rc.out b hb'; omega)) c_15.out
  clear c_15
  have g_4 : Hid (LOwn w21 (.slice ga xs.length gc) (pf 1 xs.length) gb) := LOwn.frame (fun b hb' => hb_w21.block b (by have := Rg.out b hb'; omega)) g_3.out
  clear g_3
  have B_w21 : Below w0.heap.size w0 w21 := Below.then B_w20 hb_w21 B_w20.size
  clear hb_w21 B_w20
  have Rh : Hid (∀ b ∈ hb, w20.heap.size ≤ b ∧ b < w21.heap.size) := rh
  have h_0 : Hid (LOwn w21 (.slice ha xs.length hc) xs hb) := oh
  clear oh rh
  have CE_w22 : Hid _ := eqWriteS_same h_0.out.rep c_16.out.rep
  go_wp2_with fail
  go_at_call 57; refine Calls.mono CE_w22.out ?_
  rintro e w22 ⟨rfl, hb_w22⟩
  clear CE_w22
  have z_w22 : w21.heap.size ≤ w22.heap.size := hb_w22.size
  have box_21 : Hid (C3 w22 w.heap.size (.slice na zs.length nc) (.slice wa ws.length wc) (.slice sa ss.length sc)) := C3.below box_20.out hb_w22
  clear box_20
  have c_17 : Hid (LOwn w22 (.slice ca xs.length cc) xs cb) := LOwn.frame (fun b hb' => hb_w22.block b (by have := Rc.out b hb'; omega)) c_16.out
  clear c_16
  have g_5 : Hid (LOwn w22 (.slice ga xs.length gc) (pf 1 xs.length) gb) := LOwn.frame (fun b hb' => hb_w22.block b (by have := Rg.out b hb'; omega)) g_4.out
  clear g_4
  have h_1 : Hid (LOwn w22 (.slice ha xs.length hc) xs hb) := LOwn.frame (fun b hb' => hb_w22.block b (by have := Rh.out b hb'; omega)) h_0.out
  clear h_0
  have B_w22 : Below w0.heap.size w0 w22 := Below.then B_w21 hb_w22 B_w21.size
  clear hb_w22 B_w21
  have CH_w23 : Hid _ := heldWriteS_any (n := xs.length) (k := 1) g_5.out.rep (by decide) (by omega)
  go_wp2_with fail
  go_at_call 61; refine Calls.mono CH_w23.out ?_
  rintro e w23 ⟨rfl, hb_w23⟩
  rw [HMM.out]
  clear CH_w23
  have z_w23 : w22.heap.size ≤ w23.heap.size := hb_w23.size
  have box_22 : Hid (C3 w23 w.heap.size (.slice na zs.length nc) (.slice wa ws.length wc) (.slice sa ss.length sc)) := C3.below box_21.out hb_w23
  clear box_21
  have c_18 : Hid (LOwn w23 (.slice ca xs.length cc) xs cb) := LOwn.frame (fun b hb' => hb_w23.block b (by have := Rc.out b hb'; omega)) c_17.out
  clear c_17
  have g_6 : Hid (LOwn w23 (.slice ga xs.length gc) (pf 1 xs.length) gb) := LOwn.frame (fun b hb' => hb_w23.block b (by have := Rg.out b hb'; omega)) g_5.out
  clear g_5
  have h_2 : Hid (LOwn w23 (.slice ha xs.length hc) xs hb) := LOwn.frame (fun b hb' => hb_w23.block b (by have := Rh.out b hb'; omega)) h_1.out
  clear h_1
  have B_w23 : Below w0.heap.size w0 w23 := Below.then B_w22 hb_w23 B_w22.size
  clear hb_w23 B_w22
  go_wp2
  go_ret
  exact ⟨rfl, Below.then HA.out B_w23 HA.out.size⟩

end Go.Proofs.Ytfhlkehhoanpaaa
