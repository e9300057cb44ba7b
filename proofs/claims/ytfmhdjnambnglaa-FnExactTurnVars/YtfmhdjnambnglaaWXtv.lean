/- At every argument TurnVars answers as the specification says; it writes into no argument, and its answer owns its memory: the law, walked. -/
import Derived.Test.YtfmhdjnambnglaaTpv
import Derived.Test.YtfmhdjnambnglaaTpw
import Derived.Test.YtfmhdjnambnglaaMpg
import Derived.Test.YtfmhdjnambnglaaToC
import Derived.Test.YtfmhdjnambnglaaSqx
import Derived.Test.YtfmhdjnambnglaaFrs
import Derived.Test.YtfmhdjnambnglaaDrx
namespace Go.Proofs.Ytfmhdjnambnglaa
open Go.RowKit
set_option linter.unusedSimpArgs false
set_option linter.unusedVariables false
attribute [local go_sem ↓] Go.wp_at_zero Go.wp_at_succ
attribute [local go_sem] World.cell?_alloc_some

theorem C2.frame {w w' : World} {b : Nat} {v0 v1 : Value} (h : C2 w b v0 v1) (hb : w'.heap[b]? = w.heap[b]?) : C2 w' b v0 v1 := by
  obtain ⟨⟨c0, c1⟩, f0, f1⟩ := h
  have hc : ∀ o, w'.cell? ⟨b, o, none⟩ = w.cell? ⟨b, o, none⟩ := fun o => World.cell?_of_block hb
  have hf : ∀ o, w'.frozen? ⟨b, o, none⟩ = w.frozen? ⟨b, o, none⟩ := fun o => World.frozen?_of_block (a := ⟨b, o, none⟩) hb
  exact ⟨⟨(hc 0).trans c0, (hc 1).trans c1⟩, (hf 0).trans f0, (hf 1).trans f1⟩
theorem C2.lt {w : World} {b : Nat} {v0 v1 : Value} (h : C2 w b v0 v1) : b < w.heap.size := World.block_lt_of_cell? w _ h.1.1
theorem C2.below {w w' : World} {b : Nat} {v0 v1 : Value} (h : C2 w b v0 v1) (hb : Below w.heap.size w w') : C2 w' b v0 v1 := h.frame (hb.block b h.lt)
theorem SP1 {w wz : World} {a1 a2 a3 a4 : Addr} {v1 v2 v3 v4 : Value} (h : (wz.cell? a1 = some v1 ∧ wz.cell? a2 = some v2) ∧ (wz.cell? a3 = some v3 ∧ wz.cell? a4 = some v4) ∧ Below w.heap.size w wz) : (wz.drew.cell? a1 = some v1 ∧ wz.drew.cell? a2 = some v2) ∧ (wz.drew.cell? a3 = some v3 ∧ wz.drew.cell? a4 = some v4) ∧ Below w.heap.size w wz.drew := ⟨h.1, h.2.1, h.2.2.drew⟩
theorem SP2 {w wz wx : World} {a1 a2 a3 a4 : Addr} {v1 v2 v3 v4 : Value} (h : (wz.cell? a1 = some v1 ∧ wz.cell? a2 = some v2) ∧ (wz.cell? a3 = some v3 ∧ wz.cell? a4 = some v4) ∧ Below w.heap.size w wz) (hb : Below wz.heap.size wz wx) : (wx.cell? a1 = some v1 ∧ wx.cell? a2 = some v2) ∧ (wx.cell? a3 = some v3 ∧ wx.cell? a4 = some v4) ∧ Below w.heap.size w wx :=
  ⟨⟨cell_later hb h.1.1, cell_later hb h.1.2⟩, ⟨cell_later hb h.2.1.1, cell_later hb h.2.1.2⟩, Below.then h.2.2 hb h.2.2.size⟩

set_option maxHeartbeats 8000000 in
set_option maxRecDepth 20000 in
theorem fnExactTurnVars_walk {d : Nat} {T : Tr d} {lv sv nv : Value} {ls : List (Int × Int)} {zs : List Int} (w : World) (hL : LRep w lv ls) (hR : Rep w d sv T) (hN : GRep (Value.int .i64) w nv zs) :
    Calls Try.prog 12 #[.agg #[lv, sv], nv] w fun e w' => e = .returned (.bool true) ∧ Below w.heap.size w w' := by
  obtain ⟨la, lc, hv0, -⟩ := id hL
  obtain ⟨sa, sc, hv1⟩ := id hR.slice
  obtain ⟨na, nc, hv2, hnl, hnm, -⟩ := id hN
  subst hv0 hv1 hv2
  have A : Below w.heap.size w (w.alloc (.cells #[.slice la ls.length lc, .slice sa (ln d T) sc] 64)) := (Below.refl _ _).alloc (Nat.le_refl _) _
  have G := C2.new w (.slice la ls.length lc) (.slice sa (ln d T) sc) 64
  generalize hW0 : w.alloc (.cells #[.slice la ls.length lc, .slice sa (ln d T) sc] 64) = w0 at A G
  have HW0 : Hid _ := hW0
  have hw0 : w0.heap.size = w.heap.size + 1 := by rw [← hW0]; simp
  have HS0 : Hid (w0.heap.size = w.heap.size + 1) := hw0
  have HL : Hid (∀ w', Below w0.heap.size w0 w' → LRep w' (.slice la ls.length lc) ls) := (show ∀ w', _ from fun w' hb => (hL.below A).below hb)
  have HR : Hid (∀ w', Below w0.heap.size w0 w' → Rep w' d (.slice sa (ln d T) sc) T) := (show ∀ w', _ from fun w' hb => (hR.below A).below hb)
  have HN : Hid (∀ w', Below w0.heap.size w0 w' → GRep (Value.int .i64) w' (.slice na zs.length nc) zs) := (show ∀ w', _ from fun w' hb => (hN.below A).below hb)
  have C0 : Hid _ := szProg_any (left := 1048576) (hL.below A) (hR.below A) (by decide) (by decide)
  have HA : Hid (Below w.heap.size w w0) := A
  have B_w0 : Below w0.heap.size w0 w0 := Below.refl _ _
  clear hL hR hN hW0 A hw0
  have box_0 : Hid (C2 w0 w.heap.size (.slice la ls.length lc) (.slice sa (ln d T) sc)) := G
  clear G
  by_cases hlv : (1048576 : Int) < (zs.length : Int)
  case pos =>
    go_enter Try.func12, Try.ntmps12
    go_wp2_with fail
    rw [HW0.out]
    go_ret
    exact ⟨rfl, HA.out⟩
  have lz : zs.length ≤ 1048576 := by omega
  go_enter Try.func12, Try.ntmps12
  go_wp2_with fail
  rw [HW0.out]
  clear HW0
  go_at_call 41; refine Calls.mono C0.out ?_; rintro e w1 ⟨rfl, hb1⟩
  clear C0
  have z_w1 : w0.heap.size ≤ w1.heap.size := hb1.size
  have box_1 : Hid (C2 w1 w.heap.size (.slice la ls.length lc) (.slice sa (ln d T) sc)) := C2.below box_0.out hb1
  clear box_0
  have B_w1 : Below w0.heap.size w0 w1 := Below.then B_w0 hb1 B_w0.size
  clear hb1 B_w0
  by_cases hsz : ((ls.length + cnt d T : Nat) : Int) ≤ 1048576
  case neg =>
    rw [szR_neg hsz]
    go_wp2
    go_ret
    exact ⟨rfl, Below.then HA.out B_w1 HA.out.size⟩
  rw [szR_pos hsz]
  have h0 : ¬ (1048576 - ((ls.length + cnt d T : Nat) : Int) < 0) := by omega
  have h0' : 0 ≤ 1048576 - ((ls.length + cnt d T : Nat) : Int) := by omega
  have hlen : ls.length ≤ 1048576 := by omega
  have hcn : cnt d T ≤ 1048576 := by omega
  have CT : Hid (∀ wx, Below w0.heap.size w0 wx → Calls Try.prog 42 #[.agg #[.slice la ls.length lc, .slice sa (ln d T) sc]] wx fun e w' => ∃ lv' sv' b1 b2, e = .returned (.agg #[lv', sv']) ∧ Below wx.heap.size wx w' ∧ LOwn w' lv' ls b1 ∧ Own w' d sv' T b2 ∧ (∀ b ∈ b1 ++ b2, wx.heap.size ≤ b ∧ b < w'.heap.size) ∧ b2.Nodup ∧ (∀ b ∈ b1, b ∉ b2)) := (show ∀ wx, _ from fun wx hb => toProg_any (HL.out wx hb) (HR.out wx hb) hlen hcn)
  have CN : Hid (∀ wx, Below w0.heap.size w0 wx → Calls Try.prog 39 #[.slice na zs.length nc] wx fun e w' => ∃ v' bs, e = .returned v' ∧ Below wx.heap.size wx w' ∧ GOwn (Value.int .i64) w' v' zs bs ∧ (∀ b ∈ bs, wx.heap.size ≤ b ∧ b < w'.heap.size)) := (show ∀ wx, _ from fun wx hb => toIntS_any (HN.out wx hb) lz)
  have CS : Hid (∀ (lv sv nv : Value) (wx : World), LRep wx lv ls → Rep wx d sv T → GRep (Value.int .i64) wx nv zs → Calls Try.prog 36 #[.agg #[lv, sv], nv] wx (TpPost wx (tvOk zs ls d T) (tvL zs ls d T) d (tvT zs ls d T))) := (show ∀ (lv sv nv : Value) (wx : World), _ from fun _ _ _ _ a b c => sTurnVars_any a b hcn c)
  have CI : Hid (∀ (lv sv nv : Value) (wx : World), LRep wx lv ls → Rep wx d sv T → GRep (Value.int .i64) wx nv zs → Calls Try.prog 37 #[.agg #[lv, sv], nv] wx (TpPost wx (tvOk zs ls d T) (tvL zs ls d T) d (tvT zs ls d T))) := (show ∀ (lv sv nv : Value) (wx : World), _ from fun _ _ _ _ a b c => turnVars_any a b c)
  obtain ⟨l0, l1⟩ := tv_small (zs := zs) hlen hcn
  generalize tvOk zs ls d T = res at CS CI
  generalize tvL zs ls d T = gl at CS CI l0
  generalize tvT zs ls d T = gT at CS CI l1
  generalize 1048576 - ((ls.length + cnt d T : Nat) : Int) = z at h0 h0' ⊢
  obtain ⟨⟨x0, x1⟩, -⟩ := box_1.out
  go_wp2_with fail
  clear x0 x1
  go_at_call 42; refine (CT.out _ B_w1).mono ?_
  rintro e w2 ⟨lv1, sv1, p1, q1, rfl, hb_w2, ol1, ot1, rp1, nd1, dj1⟩
  obtain ⟨la1, lc1, rfl, -⟩ := ol1.rep
  obtain ⟨sa1, sc1, rfl⟩ := ot1.slice
  have z_w2 : w1.heap.size ≤ w2.heap.size := hb_w2.size
  have box_2 : Hid (C2 w2 w.heap.size (.slice la ls.length lc) (.slice sa (ln d T) sc)) := C2.below box_1.out hb_w2
  clear box_1
  have B_w2 : Below w0.heap.size w0 w2 := Below.then B_w1 hb_w2 B_w1.size
  clear hb_w2 B_w1
  have RL1 : Hid (∀ b ∈ p1, w1.heap.size ≤ b ∧ b < w2.heap.size) := (show ∀ b ∈ p1, _ from fun b hb => rp1 b (List.mem_append_left _ hb))
  have RT1 : Hid (∀ b ∈ q1, w1.heap.size ≤ b ∧ b < w2.heap.size) := (show ∀ b ∈ q1, _ from fun b hb => rp1 b (List.mem_append_right _ hb))
  have xl1_0 : Hid (LOwn w2 (.slice la1 ls.length lc1) ls p1) := ol1
  have xt1_0 : Hid (Own w2 d (.slice sa1 (ln d T) sc1) T q1) := ot1
  clear ol1 ot1 rp1
  go_wp2_with fail
  go_at_call 39; refine (CN.out _ B_w2).mono ?_
  rintro e w3 ⟨iv1, i1, rfl, hb_w3, oi1, ri1⟩
  obtain ⟨na1, nc1, rfl, -⟩ := oi1.rep
  have z_w3 : w2.heap.size ≤ w3.heap.size := hb_w3.size
  have box_3 : Hid (C2 w3 w.heap.size (.slice la ls.length lc) (.slice sa (ln d T) sc)) := C2.below box_2.out hb_w3
  clear box_2
  have xl1_1 : Hid (LOwn w3 (.slice la1 ls.length lc1) ls p1) := LOwn.frame (fun b hb' => hb_w3.block b (by have := RL1.out b hb'; omega)) xl1_0.out
  clear xl1_0
  have xt1_1 : Hid (Own w3 d (.slice sa1 (ln d T) sc1) T q1) := Own.frame (fun b hb' => hb_w3.block b (by have := RT1.out b hb'; omega)) xt1_0.out
  clear xt1_0
  have B_w3 : Below w0.heap.size w0 w3 := Below.then B_w2 hb_w3 B_w2.size
  clear hb_w3 B_w2
  have RI1 : Hid (∀ b ∈ i1, w2.heap.size ≤ b ∧ b < w3.heap.size) := ri1
  have xi1_0 : Hid (GOwn (Value.int .i64) w3 (.slice na1 zs.length nc1) zs i1) := oi1
  clear oi1 ri1
  have CC_w4 : Hid _ := CS.out _ _ _ _ xl1_1.out.rep xt1_1.out.rep xi1_0.out.rep
  clear xl1_1
  clear xt1_1
  clear xi1_0
  go_wp2_with fail
  go_at_call 36; refine Calls.mono CC_w4.out ?_
  rintro e w4 ⟨clv, csv, c1, c2, rfl, hb_w4, olc, otc, rc, ndc, djc⟩
  obtain ⟨cla, clc, rfl, -⟩ := olc.rep
  obtain ⟨csa, csc, rfl⟩ := otc.slice
  clear CC_w4
  have z_w4 : w3.heap.size ≤ w4.heap.size := hb_w4.size
  have box_4 : Hid (C2 w4 w.heap.size (.slice la ls.length lc) (.slice sa (ln d T) sc)) := C2.below box_3.out hb_w4
  clear box_3
  have B_w4 : Below w0.heap.size w0 w4 := Below.then B_w3 hb_w4 B_w3.size
  clear hb_w4 B_w3
  have RLc : Hid (∀ b ∈ c1, w3.heap.size ≤ b ∧ b < w4.heap.size) := (show ∀ b ∈ c1, _ from fun b hb => rc b (List.mem_append_left _ hb))
  have RTc : Hid (∀ b ∈ c2, w3.heap.size ≤ b ∧ b < w4.heap.size) := (show ∀ b ∈ c2, _ from fun b hb => rc b (List.mem_append_right _ hb))
  have Rc : Hid (∀ k ∈ c1 ++ c2, w3.heap.size ≤ k ∧ k < w4.heap.size) := rc
  have cl_0 : Hid (LOwn w4 (.slice cla gl.length clc) gl c1) := olc
  have ct_0 : Hid (Own w4 d (.slice csa (ln d gT) csc) gT c2) := otc
  clear olc otc rc
  obtain ⟨⟨x0, x1⟩, -⟩ := box_4.out
  have hb_w5 : Below w4.heap.size w4 (w4.alloc (.cells #[.slice cla gl.length clc, .slice csa (ln d gT) csc] 43)) := (Below.refl _ _).alloc (Nat.le_refl _) _
  have G_w5 := C2.new w4 (.slice cla gl.length clc) (.slice csa (ln d gT) csc) 43
  have zz_w5 : (w4.alloc (.cells #[.slice cla gl.length clc, .slice csa (ln d gT) csc] 43)).heap.size = w4.heap.size + 1 := by simp
  generalize hw_w5 : w4.alloc (.cells #[.slice cla gl.length clc, .slice csa (ln d gT) csc] 43) = w5 at hb_w5 G_w5 zz_w5
  have HW_w5 : Hid _ := hw_w5
  have HZ_w5 : Hid (w5.heap.size = w4.heap.size + 1) := zz_w5
  clear hw_w5 zz_w5
  have z_w5 : w4.heap.size ≤ w5.heap.size := hb_w5.size
  have box_5 : Hid (C2 w5 w.heap.size (.slice la ls.length lc) (.slice sa (ln d T) sc)) := C2.below box_4.out hb_w5
  clear box_4
  have cl_1 : Hid (LOwn w5 (.slice cla gl.length clc) gl c1) := LOwn.frame (fun b hb' => hb_w5.block b (by have := RLc.out b hb'; omega)) cl_0.out
  clear cl_0
  have ct_1 : Hid (Own w5 d (.slice csa (ln d gT) csc) gT c2) := Own.frame (fun b hb' => hb_w5.block b (by have := RTc.out b hb'; omega)) ct_0.out
  clear ct_0
  have B_w5 : Below w0.heap.size w0 w5 := Below.then B_w4 hb_w5 B_w4.size
  clear hb_w5 B_w4
  have cb_0 : Hid (C2 w5 w4.heap.size (.slice cla gl.length clc) (.slice csa (ln d gT) csc)) := G_w5
  clear G_w5
  go_wp2_with fail
  rw [HW_w5.out]
  clear HW_w5
  clear x0 x1
  go_at_call 42; refine (CT.out _ B_w5).mono ?_
  rintro e w6 ⟨lv2, sv2, p2, q2, rfl, hb_w6, ol2, ot2, rp2, nd2, dj2⟩
  obtain ⟨la2, lc2, rfl, -⟩ := ol2.rep
  obtain ⟨sa2, sc2, rfl⟩ := ot2.slice
  have z_w6 : w5.heap.size ≤ w6.heap.size := hb_w6.size
  have box_6 : Hid (C2 w6 w.heap.size (.slice la ls.length lc) (.slice sa (ln d T) sc)) := C2.below box_5.out hb_w6
  clear box_5
  have cl_2 : Hid (LOwn w6 (.slice cla gl.length clc) gl c1) := LOwn.frame (fun b hb' => hb_w6.block b (by have := RLc.out b hb'; omega)) cl_1.out
  clear cl_1
  have ct_2 : Hid (Own w6 d (.slice csa (ln d gT) csc) gT c2) := Own.frame (fun b hb' => hb_w6.block b (by have := RTc.out b hb'; omega)) ct_1.out
  clear ct_1
  have cb_1 : Hid (C2 w6 w4.heap.size (.slice cla gl.length clc) (.slice csa (ln d gT) csc)) := C2.below cb_0.out hb_w6
  clear cb_0
  have B_w6 : Below w0.heap.size w0 w6 := Below.then B_w5 hb_w6 B_w5.size
  clear hb_w6 B_w5
  have RL2 : Hid (∀ b ∈ p2, w5.heap.size ≤ b ∧ b < w6.heap.size) := (show ∀ b ∈ p2, _ from fun b hb => rp2 b (List.mem_append_left _ hb))
  have RT2 : Hid (∀ b ∈ q2, w5.heap.size ≤ b ∧ b < w6.heap.size) := (show ∀ b ∈ q2, _ from fun b hb => rp2 b (List.mem_append_right _ hb))
  have xl2_0 : Hid (LOwn w6 (.slice la2 ls.length lc2) ls p2) := ol2
  have xt2_0 : Hid (Own w6 d (.slice sa2 (ln d T) sc2) T q2) := ot2
  clear ol2 ot2 rp2
  have hb_w7 : Below w6.heap.size w6 (w6.alloc (.cells #[.slice la2 ls.length lc2, .slice sa2 (ln d T) sc2] 43)) := (Below.refl _ _).alloc (Nat.le_refl _) _
  have G_w7 := C2.new w6 (.slice la2 ls.length lc2) (.slice sa2 (ln d T) sc2) 43
  have zz_w7 : (w6.alloc (.cells #[.slice la2 ls.length lc2, .slice sa2 (ln d T) sc2] 43)).heap.size = w6.heap.size + 1 := by simp
  generalize hw_w7 : w6.alloc (.cells #[.slice la2 ls.length lc2, .slice sa2 (ln d T) sc2] 43) = w7 at hb_w7 G_w7 zz_w7
  have HW_w7 : Hid _ := hw_w7
  have HZ_w7 : Hid (w7.heap.size = w6.heap.size + 1) := zz_w7
  clear hw_w7 zz_w7
  have z_w7 : w6.heap.size ≤ w7.heap.size := hb_w7.size
  have box_7 : Hid (C2 w7 w.heap.size (.slice la ls.length lc) (.slice sa (ln d T) sc)) := C2.below box_6.out hb_w7
  clear box_6
  have cl_3 : Hid (LOwn w7 (.slice cla gl.length clc) gl c1) := LOwn.frame (fun b hb' => hb_w7.block b (by have := RLc.out b hb'; omega)) cl_2.out
  clear cl_2
  have ct_3 : Hid (Own w7 d (.slice csa (ln d gT) csc) gT c2) := Own.frame (fun b hb' => hb_w7.block b (by have := RTc.out b hb'; omega)) ct_2.out
  clear ct_2
  have cb_2 : Hid (C2 w7 w4.heap.size (.slice cla gl.length clc) (.slice csa (ln d gT) csc)) := C2.below cb_1.out hb_w7
  clear cb_1
  have xl2_1 : Hid (LOwn w7 (.slice la2 ls.length lc2) ls p2) := LOwn.frame (fun b hb' => hb_w7.block b (by have := RL2.out b hb'; omega)) xl2_0.out
  clear xl2_0
  have xt2_1 : Hid (Own w7 d (.slice sa2 (ln d T) sc2) T q2) := Own.frame (fun b hb' => hb_w7.block b (by have := RT2.out b hb'; omega)) xt2_0.out
  clear xt2_0
  have B_w7 : Below w0.heap.size w0 w7 := Below.then B_w6 hb_w7 B_w6.size
  clear hb_w7 B_w6
  have xb_0 : Hid (C2 w7 w6.heap.size (.slice la2 ls.length lc2) (.slice sa2 (ln d T) sc2)) := G_w7
  clear G_w7
  go_wp2_with fail
  rw [HW_w7.out]
  clear HW_w7
  go_at_call 39; refine (CN.out _ B_w7).mono ?_
  rintro e w8 ⟨iv2, i2, rfl, hb_w8, oi2, ri2⟩
  obtain ⟨na2, nc2, rfl, -⟩ := oi2.rep
  have z_w8 : w7.heap.size ≤ w8.heap.size := hb_w8.size
  have box_8 : Hid (C2 w8 w.heap.size (.slice la ls.length lc) (.slice sa (ln d T) sc)) := C2.below box_7.out hb_w8
  clear box_7
  have cl_4 : Hid (LOwn w8 (.slice cla gl.length clc) gl c1) := LOwn.frame (fun b hb' => hb_w8.block b (by have := RLc.out b hb'; omega)) cl_3.out
  clear cl_3
  have ct_4 : Hid (Own w8 d (.slice csa (ln d gT) csc) gT c2) := Own.frame (fun b hb' => hb_w8.block b (by have := RTc.out b hb'; omega)) ct_3.out
  clear ct_3
  have cb_3 : Hid (C2 w8 w4.heap.size (.slice cla gl.length clc) (.slice csa (ln d gT) csc)) := C2.below cb_2.out hb_w8
  clear cb_2
  have xl2_2 : Hid (LOwn w8 (.slice la2 ls.length lc2) ls p2) := LOwn.frame (fun b hb' => hb_w8.block b (by have := RL2.out b hb'; omega)) xl2_1.out
  clear xl2_1
  have xt2_2 : Hid (Own w8 d (.slice sa2 (ln d T) sc2) T q2) := Own.frame (fun b hb' => hb_w8.block b (by have := RT2.out b hb'; omega)) xt2_1.out
  clear xt2_1
  have xb_1 : Hid (C2 w8 w6.heap.size (.slice la2 ls.length lc2) (.slice sa2 (ln d T) sc2)) := C2.below xb_0.out hb_w8
  clear xb_0
  have B_w8 : Below w0.heap.size w0 w8 := Below.then B_w7 hb_w8 B_w7.size
  clear hb_w8 B_w7
  have RI2 : Hid (∀ b ∈ i2, w7.heap.size ≤ b ∧ b < w8.heap.size) := ri2
  have xi2_0 : Hid (GOwn (Value.int .i64) w8 (.slice na2 zs.length nc2) zs i2) := oi2
  clear oi2 ri2
  obtain ⟨⟨y0, y1⟩, -⟩ := xb_1.out
  have CC_w9 : Hid _ := CI.out _ _ _ _ xl2_2.out.rep xt2_2.out.rep xi2_0.out.rep
  go_wp2_with fail
  clear y0 y1
  go_at_call 37; refine Calls.mono CC_w9.out ?_
  rintro e w9 ⟨glv, gsv, g1, g2, rfl, hb_w9, olg, otg, rg, ndg, djg⟩
  obtain ⟨gla, glc, rfl, -⟩ := olg.rep
  obtain ⟨gsa, gsc, rfl⟩ := otg.slice
  clear CC_w9
  have z_w9 : w8.heap.size ≤ w9.heap.size := hb_w9.size
  have box_9 : Hid (C2 w9 w.heap.size (.slice la ls.length lc) (.slice sa (ln d T) sc)) := C2.below box_8.out hb_w9
  clear box_8
  have cl_5 : Hid (LOwn w9 (.slice cla gl.length clc) gl c1) := LOwn.frame (fun b hb' => hb_w9.block b (by have := RLc.out b hb'; omega)) cl_4.out
  clear cl_4
  have ct_5 : Hid (Own w9 d (.slice csa (ln d gT) csc) gT c2) := Own.frame (fun b hb' => hb_w9.block b (by have := RTc.out b hb'; omega)) ct_4.out
  clear ct_4
  have cb_4 : Hid (C2 w9 w4.heap.size (.slice cla gl.length clc) (.slice csa (ln d gT) csc)) := C2.below cb_3.out hb_w9
  clear cb_3
  have xl2_3 : Hid (LOwn w9 (.slice la2 ls.length lc2) ls p2) := LOwn.frame (fun b hb' => hb_w9.block b (by have := RL2.out b hb'; omega)) xl2_2.out
  clear xl2_2
  have xt2_3 : Hid (Own w9 d (.slice sa2 (ln d T) sc2) T q2) := Own.frame (fun b hb' => hb_w9.block b (by have := RT2.out b hb'; omega)) xt2_2.out
  clear xt2_2
  have xb_2 : Hid (C2 w9 w6.heap.size (.slice la2 ls.length lc2) (.slice sa2 (ln d T) sc2)) := C2.below xb_1.out hb_w9
  clear xb_1
  have xi2_1 : Hid (GOwn (Value.int .i64) w9 (.slice na2 zs.length nc2) zs i2) := GOwn.frame (fun b hb' => hb_w9.block b (by have := RI2.out b hb'; omega)) xi2_0.out
  clear xi2_0
  have B_w9 : Below w0.heap.size w0 w9 := Below.then B_w8 hb_w9 B_w8.size
  clear hb_w9 B_w8
  have RLg : Hid (∀ b ∈ g1, w8.heap.size ≤ b ∧ b < w9.heap.size) := (show ∀ b ∈ g1, _ from fun b hb => rg b (List.mem_append_left _ hb))
  have RTg : Hid (∀ b ∈ g2, w8.heap.size ≤ b ∧ b < w9.heap.size) := (show ∀ b ∈ g2, _ from fun b hb => rg b (List.mem_append_right _ hb))
  have Rg : Hid (∀ k ∈ g1 ++ g2, w8.heap.size ≤ k ∧ k < w9.heap.size) := rg
  have gl_0 : Hid (LOwn w9 (.slice gla gl.length glc) gl g1) := olg
  have gt_0 : Hid (Own w9 d (.slice gsa (ln d gT) gsc) gT g2) := otg
  clear olg otg rg
  obtain ⟨⟨v0, v1⟩, -⟩ := cb_4.out
  have hb_w10 : Below w9.heap.size w9 (w9.alloc (.cells #[.slice gla gl.length glc, .slice gsa (ln d gT) gsc] 43)) := (Below.refl _ _).alloc (Nat.le_refl _) _
  have G_w10 := C2.new w9 (.slice gla gl.length glc) (.slice gsa (ln d gT) gsc) 43
  have zz_w10 : (w9.alloc (.cells #[.slice gla gl.length glc, .slice gsa (ln d gT) gsc] 43)).heap.size = w9.heap.size + 1 := by simp
  generalize hw_w10 : w9.alloc (.cells #[.slice gla gl.length glc, .slice gsa (ln d gT) gsc] 43) = w10 at hb_w10 G_w10 zz_w10
  have HW_w10 : Hid _ := hw_w10
  have HZ_w10 : Hid (w10.heap.size = w9.heap.size + 1) := zz_w10
  clear hw_w10 zz_w10
  have z_w10 : w9.heap.size ≤ w10.heap.size := hb_w10.size
  have box_10 : Hid (C2 w10 w.heap.size (.slice la ls.length lc) (.slice sa (ln d T) sc)) := C2.below box_9.out hb_w10
  clear box_9
  have cl_6 : Hid (LOwn w10 (.slice cla gl.length clc) gl c1) := LOwn.frame (fun b hb' => hb_w10.block b (by have := RLc.out b hb'; omega)) cl_5.out
  clear cl_5
  have ct_6 : Hid (Own w10 d (.slice csa (ln d gT) csc) gT c2) := Own.frame (fun b hb' => hb_w10.block b (by have := RTc.out b hb'; omega)) ct_5.out
  clear ct_5
  have cb_5 : Hid (C2 w10 w4.heap.size (.slice cla gl.length clc) (.slice csa (ln d gT) csc)) := C2.below cb_4.out hb_w10
  clear cb_4
  have xl2_4 : Hid (LOwn w10 (.slice la2 ls.length lc2) ls p2) := LOwn.frame (fun b hb' => hb_w10.block b (by have := RL2.out b hb'; omega)) xl2_3.out
  clear xl2_3
  have xt2_4 : Hid (Own w10 d (.slice sa2 (ln d T) sc2) T q2) := Own.frame (fun b hb' => hb_w10.block b (by have := RT2.out b hb'; omega)) xt2_3.out
  clear xt2_3
  have xb_3 : Hid (C2 w10 w6.heap.size (.slice la2 ls.length lc2) (.slice sa2 (ln d T) sc2)) := C2.below xb_2.out hb_w10
  clear xb_2
  have xi2_2 : Hid (GOwn (Value.int .i64) w10 (.slice na2 zs.length nc2) zs i2) := GOwn.frame (fun b hb' => hb_w10.block b (by have := RI2.out b hb'; omega)) xi2_1.out
  clear xi2_1
  have gl_1 : Hid (LOwn w10 (.slice gla gl.length glc) gl g1) := LOwn.frame (fun b hb' => hb_w10.block b (by have := RLg.out b hb'; omega)) gl_0.out
  clear gl_0
  have gt_1 : Hid (Own w10 d (.slice gsa (ln d gT) gsc) gT g2) := Own.frame (fun b hb' => hb_w10.block b (by have := RTg.out b hb'; omega)) gt_0.out
  clear gt_0
  have B_w10 : Below w0.heap.size w0 w10 := Below.then B_w9 hb_w10 B_w9.size
  clear hb_w10 B_w9
  have gb_0 : Hid (C2 w10 w9.heap.size (.slice gla gl.length glc) (.slice gsa (ln d gT) gsc)) := G_w10
  clear G_w10
  go_wp2_with fail
  rw [HW_w10.out]
  clear HW_w10
  clear v0 v1
  have CE_w11 : Hid _ := eqProg_same gl_1.out.rep gt_1.out.rep cl_6.out.rep ct_6.out.rep
  go_at_call 43; refine Calls.mono CE_w11.out ?_
  rintro e w11 ⟨rfl, hb_w11⟩
  clear CE_w11
  have z_w11 : w10.heap.size ≤ w11.heap.size := hb_w11.size
  have box_11 : Hid (C2 w11 w.heap.size (.slice la ls.length lc) (.slice sa (ln d T) sc)) := C2.below box_10.out hb_w11
  clear box_10
  have cl_7 : Hid (LOwn w11 (.slice cla gl.length clc) gl c1) := LOwn.frame (fun b hb' => hb_w11.block b (by have := RLc.out b hb'; omega)) cl_6.out
  clear cl_6
  have ct_7 : Hid (Own w11 d (.slice csa (ln d gT) csc) gT c2) := Own.frame (fun b hb' => hb_w11.block b (by have := RTc.out b hb'; omega)) ct_6.out
  clear ct_6
  have cb_6 : Hid (C2 w11 w4.heap.size (.slice cla gl.length clc) (.slice csa (ln d gT) csc)) := C2.below cb_5.out hb_w11
  clear cb_5
  have xl2_5 : Hid (LOwn w11 (.slice la2 ls.length lc2) ls p2) := LOwn.frame (fun b hb' => hb_w11.block b (by have := RL2.out b hb'; omega)) xl2_4.out
  clear xl2_4
  have xt2_5 : Hid (Own w11 d (.slice sa2 (ln d T) sc2) T q2) := Own.frame (fun b hb' => hb_w11.block b (by have := RT2.out b hb'; omega)) xt2_4.out
  clear xt2_4
  have xb_4 : Hid (C2 w11 w6.heap.size (.slice la2 ls.length lc2) (.slice sa2 (ln d T) sc2)) := C2.below xb_3.out hb_w11
  clear xb_3
  have xi2_3 : Hid (GOwn (Value.int .i64) w11 (.slice na2 zs.length nc2) zs i2) := GOwn.frame (fun b hb' => hb_w11.block b (by have := RI2.out b hb'; omega)) xi2_2.out
  clear xi2_2
  have gl_2 : Hid (LOwn w11 (.slice gla gl.length glc) gl g1) := LOwn.frame (fun b hb' => hb_w11.block b (by have := RLg.out b hb'; omega)) gl_1.out
  clear gl_1
  have gt_2 : Hid (Own w11 d (.slice gsa (ln d gT) gsc) gT g2) := Own.frame (fun b hb' => hb_w11.block b (by have := RTg.out b hb'; omega)) gt_1.out
  clear gt_1
  have gb_1 : Hid (C2 w11 w9.heap.size (.slice gla gl.length glc) (.slice gsa (ln d gT) gsc)) := C2.below gb_0.out hb_w11
  clear gb_0
  have B_w11 : Below w0.heap.size w0 w11 := Below.then B_w10 hb_w11 B_w10.size
  clear hb_w11 B_w10
  obtain ⟨⟨x0, x1⟩, -⟩ := box_11.out
  obtain ⟨⟨y0, y1⟩, -⟩ := xb_4.out
  go_wp2_with fail
  refine wp_region_held (S := (fun wz => (wz.cell? ⟨w.heap.size, 0, none⟩ = some (.slice la ls.length lc) ∧ wz.cell? ⟨w.heap.size, 1, none⟩ = some (.slice sa (ln d T) sc)) ∧ (wz.cell? ⟨w6.heap.size, 0, none⟩ = some (.slice la2 ls.length lc2) ∧ wz.cell? ⟨w6.heap.size, 1, none⟩ = some (.slice sa2 (ln d T) sc2)) ∧ Below w11.heap.size w11 wz)) (by kernel_rfl) ?_
  change wpAnyH _ _ _ _ _ _ _ _ (World.drew _)
  have hHeld := SP1 ⟨⟨x0, x1⟩, ⟨y0, y1⟩, Below.refl w11.heap.size w11⟩
  refine' wpAnyH_take (i := 0) (v := .agg #[.slice la2 ls.length lc2, .slice sa2 (ln d T) sc2]) rfl (by kernel_rfl) (by kernel_rfl) (by kernel_rfl) (fun _ _ _ h => h) (Or.inl ⟨by rfl, ?hy50001⟩) hHeld ?hn50001
  case hy50001 => (intro wz hSw; obtain ⟨_, ⟨k0, k1⟩, _⟩ := hSw; go_simp)
  try simp only [List.getElem_toArray, List.getElem_cons_zero, List.getElem_cons_succ, Act.put, List.setIfInBounds_toArray, List.set_cons_zero, List.set_cons_succ]
  refine' wpAnyH_take (i := 1) (v := .agg #[.slice la ls.length lc, .slice sa (ln d T) sc]) rfl (by kernel_rfl) (by kernel_rfl) (by kernel_rfl) (fun _ _ _ h => h) (Or.inl ⟨by rfl, ?hy50002⟩) hHeld ?hn50002
  case hy50002 => (intro wz hSw; obtain ⟨⟨k0, k1⟩, _, _⟩ := hSw; go_simp)
  try simp only [List.getElem_toArray, List.getElem_cons_zero, List.getElem_cons_succ, Act.put, List.setIfInBounds_toArray, List.set_cons_zero, List.set_cons_succ]
  refine wpAnyH_ready (rs := [2]) (by kernel_rfl) (by simp) ?_
  refine AllReadyH.cons rfl (fun K hK => ?_) AllReadyH.nil
  go_simp
  refine (CT.out _ (Below.then B_w11 hHeld.2.2 B_w11.size)).mono ?_; rintro e' w12 ⟨lv9, sv9, _, _, rfl, hbx, ol9, ot9, -, -, -⟩; obtain ⟨la9, lc9, rfl, -⟩ := ol9.rep; obtain ⟨sa9, sc9, rfl⟩ := ot9.slice; have CE : Hid _ := eqProg_same (LRep.below (Below.then hHeld.2.2 hbx hHeld.2.2.size) xl2_5.out.rep) (Rep.below (Below.then hHeld.2.2 hbx hHeld.2.2.size) xt2_5.out.rep) ol9.rep ot9.rep
  refine hK.out _ _ (SP2 hHeld hbx) (fun hHeld => ?_)
  clear hK K
  refine wpAnyH_ready (rs := [3]) (by kernel_rfl) (by simp) ?_
  refine AllReadyH.cons rfl (fun K hK => ?_) AllReadyH.nil
  go_simp
  refine Calls.mono CE.out ?_; rintro e' w13 ⟨rfl, hbx⟩
  refine hK.out _ _ (SP2 hHeld hbx) (fun hHeld => ?_)
  clear hK K
  refine' wpAnyH_take (i := 4) (v := _) rfl (by kernel_rfl) (by kernel_rfl) (by kernel_rfl) (fun _ _ _ h => h) (Or.inl ⟨by rfl, ?hy50003⟩) hHeld ?hn50003
  case hy50003 => (intro wz hSw; (try dsimp only at hSw); go_simp; first | done | with_reducible rfl)
  try simp only [List.getElem_toArray, List.getElem_cons_zero, List.getElem_cons_succ, Act.put, List.setIfInBounds_toArray, List.set_cons_zero, List.set_cons_succ]
  refine wpAnyH_done (by kernel_rfl) ?_ _
  clear x0 x1 y0 y1
  obtain ⟨-, -, hb_w13⟩ := hHeld
  clear CE
  have z_w13 : w11.heap.size ≤ w13.heap.size := hb_w13.size
  have box_12 : Hid (C2 w13 w.heap.size (.slice la ls.length lc) (.slice sa (ln d T) sc)) := C2.below box_11.out hb_w13
  clear box_11
  have cl_8 : Hid (LOwn w13 (.slice cla gl.length clc) gl c1) := LOwn.frame (fun b hb' => hb_w13.block b (by have := RLc.out b hb'; omega)) cl_7.out
  clear cl_7
  have ct_8 : Hid (Own w13 d (.slice csa (ln d gT) csc) gT c2) := Own.frame (fun b hb' => hb_w13.block b (by have := RTc.out b hb'; omega)) ct_7.out
  clear ct_7
  have cb_7 : Hid (C2 w13 w4.heap.size (.slice cla gl.length clc) (.slice csa (ln d gT) csc)) := C2.below cb_6.out hb_w13
  clear cb_6
  have xl2_6 : Hid (LOwn w13 (.slice la2 ls.length lc2) ls p2) := LOwn.frame (fun b hb' => hb_w13.block b (by have := RL2.out b hb'; omega)) xl2_5.out
  clear xl2_5
  have xt2_6 : Hid (Own w13 d (.slice sa2 (ln d T) sc2) T q2) := Own.frame (fun b hb' => hb_w13.block b (by have := RT2.out b hb'; omega)) xt2_5.out
  clear xt2_5
  have xb_5 : Hid (C2 w13 w6.heap.size (.slice la2 ls.length lc2) (.slice sa2 (ln d T) sc2)) := C2.below xb_4.out hb_w13
  clear xb_4
  have xi2_4 : Hid (GOwn (Value.int .i64) w13 (.slice na2 zs.length nc2) zs i2) := GOwn.frame (fun b hb' => hb_w13.block b (by have := RI2.out b hb'; omega)) xi2_3.out
  clear xi2_3
  have gl_3 : Hid (LOwn w13 (.slice gla gl.length glc) gl g1) := LOwn.frame (fun b hb' => hb_w13.block b (by have := RLg.out b hb'; omega)) gl_2.out
  clear gl_2
  have gt_3 : Hid (Own w13 d (.slice gsa (ln d gT) gsc) gT g2) := Own.frame (fun b hb' => hb_w13.block b (by have := RTg.out b hb'; omega)) gt_2.out
  clear gt_2
  have gb_2 : Hid (C2 w13 w9.heap.size (.slice gla gl.length glc) (.slice gsa (ln d gT) gsc)) := C2.below gb_1.out hb_w13
  clear gb_1
  have B_w13 : Below w0.heap.size w0 w13 := Below.then B_w11 hb_w13 B_w11.size
  clear hb_w13 B_w11
  go_wp2_with fail
  go_at_call 39; refine (CN.out _ B_w13).mono ?_
  rintro e w14 ⟨iv3, i3, rfl, hb_w14, oi3, ri3⟩
  obtain ⟨na3, nc3, rfl, -⟩ := oi3.rep
  have z_w14 : w13.heap.size ≤ w14.heap.size := hb_w14.size
  have box_13 : Hid (C2 w14 w.heap.size (.slice la ls.length lc) (.slice sa (ln d T) sc)) := C2.below box_12.out hb_w14
  clear box_12
  have cl_9 : Hid (LOwn w14 (.slice cla gl.length clc) gl c1) := LOwn.frame (fun b hb' => hb_w14.block b (by have := RLc.out b hb'; omega)) cl_8.out
  clear cl_8
  have ct_9 : Hid (Own w14 d (.slice csa (ln d gT) csc) gT c2) := Own.frame (fun b hb' => hb_w14.block b (by have := RTc.out b hb'; omega)) ct_8.out
  clear ct_8
  have cb_8 : Hid (C2 w14 w4.heap.size (.slice cla gl.length clc) (.slice csa (ln d gT) csc)) := C2.below cb_7.out hb_w14
  clear cb_7
  have xl2_7 : Hid (LOwn w14 (.slice la2 ls.length lc2) ls p2) := LOwn.frame (fun b hb' => hb_w14.block b (by have := RL2.out b hb'; omega)) xl2_6.out
  clear xl2_6
  have xt2_7 : Hid (Own w14 d (.slice sa2 (ln d T) sc2) T q2) := Own.frame (fun b hb' => hb_w14.block b (by have := RT2.out b hb'; omega)) xt2_6.out
  clear xt2_6
  have xb_6 : Hid (C2 w14 w6.heap.size (.slice la2 ls.length lc2) (.slice sa2 (ln d T) sc2)) := C2.below xb_5.out hb_w14
  clear xb_5
  have xi2_5 : Hid (GOwn (Value.int .i64) w14 (.slice na2 zs.length nc2) zs i2) := GOwn.frame (fun b hb' => hb_w14.block b (by have := RI2.out b hb'; omega)) xi2_4.out
  clear xi2_4
  have gl_4 : Hid (LOwn w14 (.slice gla gl.length glc) gl g1) := LOwn.frame (fun b hb' => hb_w14.block b (by have := RLg.out b hb'; omega)) gl_3.out
  clear gl_3
  have gt_4 : Hid (Own w14 d (.slice gsa (ln d gT) gsc) gT g2) := Own.frame (fun b hb' => hb_w14.block b (by have := RTg.out b hb'; omega)) gt_3.out
  clear gt_3
  have gb_3 : Hid (C2 w14 w9.heap.size (.slice gla gl.length glc) (.slice gsa (ln d gT) gsc)) := C2.below gb_2.out hb_w14
  clear gb_2
  have B_w14 : Below w0.heap.size w0 w14 := Below.then B_w13 hb_w14 B_w13.size
  clear hb_w14 B_w13
  have RI3 : Hid (∀ b ∈ i3, w13.heap.size ≤ b ∧ b < w14.heap.size) := ri3
  have xi3_0 : Hid (GOwn (Value.int .i64) w14 (.slice na3 zs.length nc3) zs i3) := oi3
  clear oi3 ri3
  have CEi : Hid _ := eqIntS_same xi2_5.out.rep xi3_0.out.rep
  clear xi3_0
  go_wp2_with fail
  go_at_call 40; refine Calls.mono CEi.out ?_
  rintro e w15 ⟨rfl, hb_w15⟩
  clear CEi
  have z_w15 : w14.heap.size ≤ w15.heap.size := hb_w15.size
  have box_14 : Hid (C2 w15 w.heap.size (.slice la ls.length lc) (.slice sa (ln d T) sc)) := C2.below box_13.out hb_w15
  clear box_13
  have cl_10 : Hid (LOwn w15 (.slice cla gl.length clc) gl c1) := LOwn.frame (fun b hb' => hb_w15.block b (by have := RLc.out b hb'; omega)) cl_9.out
  clear cl_9
  have ct_10 : Hid (Own w15 d (.slice csa (ln d gT) csc) gT c2) := Own.frame (fun b hb' => hb_w15.block b (by have := RTc.out b hb'; omega)) ct_9.out
  clear ct_9
  have cb_9 : Hid (C2 w15 w4.heap.size (.slice cla gl.length clc) (.slice csa (ln d gT) csc)) := C2.below cb_8.out hb_w15
  clear cb_8
  have xl2_8 : Hid (LOwn w15 (.slice la2 ls.length lc2) ls p2) := LOwn.frame (fun b hb' => hb_w15.block b (by have := RL2.out b hb'; omega)) xl2_7.out
  clear xl2_7
  have xt2_8 : Hid (Own w15 d (.slice sa2 (ln d T) sc2) T q2) := Own.frame (fun b hb' => hb_w15.block b (by have := RT2.out b hb'; omega)) xt2_7.out
  clear xt2_7
  have xb_7 : Hid (C2 w15 w6.heap.size (.slice la2 ls.length lc2) (.slice sa2 (ln d T) sc2)) := C2.below xb_6.out hb_w15
  clear xb_6
  have xi2_6 : Hid (GOwn (Value.int .i64) w15 (.slice na2 zs.length nc2) zs i2) := GOwn.frame (fun b hb' => hb_w15.block b (by have := RI2.out b hb'; omega)) xi2_5.out
  clear xi2_5
  have gl_5 : Hid (LOwn w15 (.slice gla gl.length glc) gl g1) := LOwn.frame (fun b hb' => hb_w15.block b (by have := RLg.out b hb'; omega)) gl_4.out
  clear gl_4
  have gt_5 : Hid (Own w15 d (.slice gsa (ln d gT) gsc) gT g2) := Own.frame (fun b hb' => hb_w15.block b (by have := RTg.out b hb'; omega)) gt_4.out
  clear gt_4
  have gb_4 : Hid (C2 w15 w9.heap.size (.slice gla gl.length glc) (.slice gsa (ln d gT) gsc)) := C2.below gb_3.out hb_w15
  clear gb_3
  have B_w15 : Below w0.heap.size w0 w15 := Below.then B_w14 hb_w15 B_w14.size
  clear hb_w15 B_w14
  have CM : Hid _ := markProg_all xl2_8.out xt2_8.out (fun b hb' => by rcases List.mem_append.1 hb' with hb' | hb'; (have := RL2.out b hb'; omega); (have := RT2.out b hb'; omega)) nd2 dj2 hlen hcn
  have RX2 : Hid (∀ b ∈ p2 ++ q2, w5.heap.size ≤ b ∧ b < w6.heap.size) := (show ∀ b ∈ p2 ++ q2, _ from fun b hb' => by rcases List.mem_append.1 hb' with hb' | hb'; exact RL2.out b hb'; exact RT2.out b hb')
  obtain ⟨⟨y0, y1⟩, -⟩ := xb_7.out
  go_wp2_with fail
  clear y0 y1
  go_at_call 44; refine Calls.mono CM.out ?_
  rintro e w16 ⟨rfl, fs16, -, -⟩
  clear xl2_8
  clear xt2_8
  clear xb_7
  have := HZ_w5.out
  have := HZ_w7.out
  have := HZ_w10.out
  have := HS0.out
  have z_w16 : w15.heap.size ≤ w16.heap.size := fs16.size
  have box_15 : Hid (C2 w16 w.heap.size (.slice la ls.length lc) (.slice sa (ln d T) sc)) := C2.frame box_14.out (fs16.block w.heap.size (C2.lt box_14.out) (fun hm => by have := RX2.out _ hm; omega))
  clear box_14
  have cl_11 : Hid (LOwn w16 (.slice cla gl.length clc) gl c1) := LOwn.frame (fun b hb' => fs16.block b (by have := RLc.out b hb'; omega) (fun hm => by have := RX2.out b hm; have := RLc.out b hb'; omega)) cl_10.out
  clear cl_10
  have ct_11 : Hid (Own w16 d (.slice csa (ln d gT) csc) gT c2) := Own.frame (fun b hb' => fs16.block b (by have := RTc.out b hb'; omega) (fun hm => by have := RX2.out b hm; have := RTc.out b hb'; omega)) ct_10.out
  clear ct_10
  have cb_10 : Hid (C2 w16 w4.heap.size (.slice cla gl.length clc) (.slice csa (ln d gT) csc)) := C2.frame cb_9.out (fs16.block w4.heap.size (C2.lt cb_9.out) (fun hm => by have := RX2.out _ hm; omega))
  clear cb_9
  have xi2_7 : Hid (GOwn (Value.int .i64) w16 (.slice na2 zs.length nc2) zs i2) := GOwn.frame (fun b hb' => fs16.block b (by have := RI2.out b hb'; omega) (fun hm => by have := RX2.out b hm; have := RI2.out b hb'; omega)) xi2_6.out
  clear xi2_6
  have gl_6 : Hid (LOwn w16 (.slice gla gl.length glc) gl g1) := LOwn.frame (fun b hb' => fs16.block b (by have := RLg.out b hb'; omega) (fun hm => by have := RX2.out b hm; have := RLg.out b hb'; omega)) gl_5.out
  clear gl_5
  have gt_6 : Hid (Own w16 d (.slice gsa (ln d gT) gsc) gT g2) := Own.frame (fun b hb' => fs16.block b (by have := RTg.out b hb'; omega) (fun hm => by have := RX2.out b hm; have := RTg.out b hb'; omega)) gt_5.out
  clear gt_5
  have gb_5 : Hid (C2 w16 w9.heap.size (.slice gla gl.length glc) (.slice gsa (ln d gT) gsc)) := C2.frame gb_4.out (fs16.block w9.heap.size (C2.lt gb_4.out) (fun hm => by have := RX2.out _ hm; omega))
  clear gb_4
  have B_w16 : Below w0.heap.size w0 w16 := B_w15.trans (fs16.below (fun b hb' => by have := RX2.out b hb'; omega) B_w15.size)
  clear B_w15
  clear fs16 CM
  have k0 : 0 ≤ 1 + 2 * (ls.length : Int) + 6 * (cnt d T : Int) := by omega
  have k1 : 1 + 2 * (ls.length : Int) + 6 * (cnt d T : Int) ≤ 16777216 := by omega
  generalize 1 + 2 * (ls.length : Int) + 6 * (cnt d T : Int) = kk at k0 k1 ⊢
  have CB : Hid _ := markIntS_any (k := kk) xi2_7.out k0 (by omega)
  clear xi2_7
  go_wp2_with fail
  go_at_call 45; refine Calls.mono CB.out ?_
  rintro e w17 ⟨rfl, fr17, -⟩
  have fs17 : Fs i2 w16 w17 := Fs.of_fr fr17
  clear fr17 CB
  have z_w17 : w16.heap.size ≤ w17.heap.size := fs17.size
  have box_16 : Hid (C2 w17 w.heap.size (.slice la ls.length lc) (.slice sa (ln d T) sc)) := C2.frame box_15.out (fs17.block w.heap.size (C2.lt box_15.out) (fun hm => by have := RI2.out _ hm; omega))
  clear box_15
  have cl_12 : Hid (LOwn w17 (.slice cla gl.length clc) gl c1) := LOwn.frame (fun b hb' => fs17.block b (by have := RLc.out b hb'; omega) (fun hm => by have := RI2.out b hm; have := RLc.out b hb'; omega)) cl_11.out
  clear cl_11
  have ct_12 : Hid (Own w17 d (.slice csa (ln d gT) csc) gT c2) := Own.frame (fun b hb' => fs17.block b (by have := RTc.out b hb'; omega) (fun hm => by have := RI2.out b hm; have := RTc.out b hb'; omega)) ct_11.out
  clear ct_11
  have cb_11 : Hid (C2 w17 w4.heap.size (.slice cla gl.length clc) (.slice csa (ln d gT) csc)) := C2.frame cb_10.out (fs17.block w4.heap.size (C2.lt cb_10.out) (fun hm => by have := RI2.out _ hm; omega))
  clear cb_10
  have gl_7 : Hid (LOwn w17 (.slice gla gl.length glc) gl g1) := LOwn.frame (fun b hb' => fs17.block b (by have := RLg.out b hb'; omega) (fun hm => by have := RI2.out b hm; have := RLg.out b hb'; omega)) gl_6.out
  clear gl_6
  have gt_7 : Hid (Own w17 d (.slice gsa (ln d gT) gsc) gT g2) := Own.frame (fun b hb' => fs17.block b (by have := RTg.out b hb'; omega) (fun hm => by have := RI2.out b hm; have := RTg.out b hb'; omega)) gt_6.out
  clear gt_6
  have gb_6 : Hid (C2 w17 w9.heap.size (.slice gla gl.length glc) (.slice gsa (ln d gT) gsc)) := C2.frame gb_5.out (fs17.block w9.heap.size (C2.lt gb_5.out) (fun hm => by have := RI2.out _ hm; omega))
  clear gb_5
  have B_w17 : Below w0.heap.size w0 w17 := B_w16.trans (fs17.below (fun b hb' => by have := RI2.out b hb'; omega) B_w16.size)
  clear B_w16
  clear fs17
  have k2 : 0 ≤ kk + (zs.length : Int) := by omega
  have k3 : ¬ (kk + (zs.length : Int) < 0) := by omega
  generalize kk + (zs.length : Int) = k5 at k2 k3 ⊢
  obtain ⟨⟨u0, u1⟩, -⟩ := gb_6.out
  obtain ⟨⟨v0, v1⟩, -⟩ := cb_11.out
  have CE_w18 : Hid _ := eqProg_same gl_7.out.rep gt_7.out.rep cl_12.out.rep ct_12.out.rep
  go_wp2_with fail
  clear u0 u1 v0 v1
  go_at_call 43; refine Calls.mono CE_w18.out ?_
  rintro e w18 ⟨rfl, hb_w18⟩
  clear CE_w18
  have z_w18 : w17.heap.size ≤ w18.heap.size := hb_w18.size
  have box_17 : Hid (C2 w18 w.heap.size (.slice la ls.length lc) (.slice sa (ln d T) sc)) := C2.below box_16.out hb_w18
  clear box_16
  have cl_13 : Hid (LOwn w18 (.slice cla gl.length clc) gl c1) := LOwn.frame (fun b hb' => hb_w18.block b (by have := RLc.out b hb'; omega)) cl_12.out
  clear cl_12
  have ct_13 : Hid (Own w18 d (.slice csa (ln d gT) csc) gT c2) := Own.frame (fun b hb' => hb_w18.block b (by have := RTc.out b hb'; omega)) ct_12.out
  clear ct_12
  have cb_12 : Hid (C2 w18 w4.heap.size (.slice cla gl.length clc) (.slice csa (ln d gT) csc)) := C2.below cb_11.out hb_w18
  clear cb_11
  have gl_8 : Hid (LOwn w18 (.slice gla gl.length glc) gl g1) := LOwn.frame (fun b hb' => hb_w18.block b (by have := RLg.out b hb'; omega)) gl_7.out
  clear gl_7
  have gt_8 : Hid (Own w18 d (.slice gsa (ln d gT) gsc) gT g2) := Own.frame (fun b hb' => hb_w18.block b (by have := RTg.out b hb'; omega)) gt_7.out
  clear gt_7
  have gb_7 : Hid (C2 w18 w9.heap.size (.slice gla gl.length glc) (.slice gsa (ln d gT) gsc)) := C2.below gb_6.out hb_w18
  clear gb_6
  have B_w18 : Below w0.heap.size w0 w18 := Below.then B_w17 hb_w18 B_w17.size
  clear hb_w18 B_w17
  have CN' : Hid _ := markProg_all gl_8.out gt_8.out (fun b hb' => by have := Rg.out b hb'; omega) ndg djg l0 l1
  obtain ⟨⟨u0, u1⟩, -⟩ := gb_7.out
  go_wp2_with fail
  clear u0 u1
  go_at_call 44; refine Calls.mono CN'.out ?_
  rintro e w19 ⟨rfl, fs19, olg, otg⟩
  clear gl_8
  clear gt_8
  have z_w19 : w18.heap.size ≤ w19.heap.size := fs19.size
  have box_18 : Hid (C2 w19 w.heap.size (.slice la ls.length lc) (.slice sa (ln d T) sc)) := C2.frame box_17.out (fs19.block w.heap.size (C2.lt box_17.out) (fun hm => by have := Rg.out _ hm; omega))
  clear box_17
  have cl_14 : Hid (LOwn w19 (.slice cla gl.length clc) gl c1) := LOwn.frame (fun b hb' => fs19.block b (by have := RLc.out b hb'; omega) (fun hm => by have := Rg.out b hm; have := RLc.out b hb'; omega)) cl_13.out
  clear cl_13
  have ct_14 : Hid (Own w19 d (.slice csa (ln d gT) csc) gT c2) := Own.frame (fun b hb' => fs19.block b (by have := RTc.out b hb'; omega) (fun hm => by have := Rg.out b hm; have := RTc.out b hb'; omega)) ct_13.out
  clear ct_13
  have cb_13 : Hid (C2 w19 w4.heap.size (.slice cla gl.length clc) (.slice csa (ln d gT) csc)) := C2.frame cb_12.out (fs19.block w4.heap.size (C2.lt cb_12.out) (fun hm => by have := Rg.out _ hm; omega))
  clear cb_12
  have gb_8 : Hid (C2 w19 w9.heap.size (.slice gla gl.length glc) (.slice gsa (ln d gT) gsc)) := C2.frame gb_7.out (fs19.block w9.heap.size (C2.lt gb_7.out) (fun hm => by have := Rg.out _ hm; omega))
  clear gb_7
  have B_w19 : Below w0.heap.size w0 w19 := B_w18.trans (fs19.below (fun b hb' => by have := Rg.out b hb'; omega) B_w18.size)
  clear B_w18
  have gl_0 : Hid (LOwn w19 (.slice gla gl.length glc) (pf 1 gl.length) g1) := olg
  have gt_0 : Hid (Own w19 d (.slice gsa (ln d gT) gsc) (mkT d (1 + 2 * gl.length) gT) g2) := otg
  clear olg otg fs19 CN'
  have m0 : 0 ≤ 1 + 2 * (gl.length : Int) + 6 * (cnt d gT : Int) := by omega
  have m1 : ¬ (1 + 2 * (gl.length : Int) + 6 * (cnt d gT : Int) < 0) := by omega
  obtain ⟨mm, hmm⟩ : ∃ m : Int, 1 + 2 * (gl.length : Int) + 6 * (cnt d gT : Int) = m := ⟨_, rfl⟩
  rw [hmm] at m0 m1 ⊢
  have HMM : Hid _ := hmm
  clear hmm
  have CH_w20 : Hid _ := heldProg_any (n := gl.length) gl_0.out.rep gt_0.out.rep l0 l1
  obtain ⟨⟨u0, u1⟩, -⟩ := gb_8.out
  go_wp2_with fail
  clear u0 u1
  go_at_call 46; refine Calls.mono CH_w20.out ?_
  rintro e w20 ⟨rfl, hb_w20⟩
  rw [HMM.out]
  clear CH_w20
  have z_w20 : w19.heap.size ≤ w20.heap.size := hb_w20.size
  have box_19 : Hid (C2 w20 w.heap.size (.slice la ls.length lc) (.slice sa (ln d T) sc)) := C2.below box_18.out hb_w20
  clear box_18
  have cl_15 : Hid (LOwn w20 (.slice cla gl.length clc) gl c1) := LOwn.frame (fun b hb' => hb_w20.block b (by have := RLc.out b hb'; omega)) cl_14.out
  clear cl_14
  have ct_15 : Hid (Own w20 d (.slice csa (ln d gT) csc) gT c2) := Own.frame (fun b hb' => hb_w20.block b (by have := RTc.out b hb'; omega)) ct_14.out
  clear ct_14
  have cb_14 : Hid (C2 w20 w4.heap.size (.slice cla gl.length clc) (.slice csa (ln d gT) csc)) := C2.below cb_13.out hb_w20
  clear cb_13
  have gb_9 : Hid (C2 w20 w9.heap.size (.slice gla gl.length glc) (.slice gsa (ln d gT) gsc)) := C2.below gb_8.out hb_w20
  clear gb_8
  have gl_1 : Hid (LOwn w20 (.slice gla gl.length glc) (pf 1 gl.length) g1) := LOwn.frame (fun b hb' => hb_w20.block b (by have := RLg.out b hb'; omega)) gl_0.out
  clear gl_0
  have gt_1 : Hid (Own w20 d (.slice gsa (ln d gT) gsc) (mkT d (1 + 2 * gl.length) gT) g2) := Own.frame (fun b hb' => hb_w20.block b (by have := RTg.out b hb'; omega)) gt_0.out
  clear gt_0
  have B_w20 : Below w0.heap.size w0 w20 := Below.then B_w19 hb_w20 B_w19.size
  clear hb_w20 B_w19
  obtain ⟨⟨x0, x1⟩, -⟩ := box_19.out
  go_wp2_with fail
  clear x0 x1
  go_at_call 42; refine (CT.out _ B_w20).mono ?_
  rintro e w21 ⟨lv4, sv4, p4, q4, rfl, hb_w21, ol4, ot4, rp4, nd4, dj4⟩
  obtain ⟨la4, lc4, rfl, -⟩ := ol4.rep
  obtain ⟨sa4, sc4, rfl⟩ := ot4.slice
  have z_w21 : w20.heap.size ≤ w21.heap.size := hb_w21.size
  have box_20 : Hid (C2 w21 w.heap.size (.slice la ls.length lc) (.slice sa (ln d T) sc)) := C2.below box_19.out hb_w21
  clear box_19
  have cl_16 : Hid (LOwn w21 (.slice cla gl.length clc) gl c1) := LOwn.frame (fun b hb' => hb_w21.block b (by have := RLc.out b hb'; omega)) cl_15.out
  clear cl_15
  have ct_16 : Hid (Own w21 d (.slice csa (ln d gT) csc) gT c2) := Own.frame (fun b hb' => hb_w21.block b (by have := RTc.out b hb'; omega)) ct_15.out
  clear ct_15
  have cb_15 : Hid (C2 w21 w4.heap.size (.slice cla gl.length clc) (.slice csa (ln d gT) csc)) := C2.below cb_14.out hb_w21
  clear cb_14
  have gb_10 : Hid (C2 w21 w9.heap.size (.slice gla gl.length glc) (.slice gsa (ln d gT) gsc)) := C2.below gb_9.out hb_w21
  clear gb_9
  have gl_2 : Hid (LOwn w21 (.slice gla gl.length glc) (pf 1 gl.length) g1) := LOwn.frame (fun b hb' => hb_w21.block b (by have := RLg.out b hb'; omega)) gl_1.out
  clear gl_1
  have gt_2 : Hid (Own w21 d (.slice gsa (ln d gT) gsc) (mkT d (1 + 2 * gl.length) gT) g2) := Own.frame (fun b hb' => hb_w21.block b (by have := RTg.out b hb'; omega)) gt_1.out
  clear gt_1
  have B_w21 : Below w0.heap.size w0 w21 := Below.then B_w20 hb_w21 B_w20.size
  clear hb_w21 B_w20
  have RL4 : Hid (∀ b ∈ p4, w20.heap.size ≤ b ∧ b < w21.heap.size) := (show ∀ b ∈ p4, _ from fun b hb => rp4 b (List.mem_append_left _ hb))
  have RT4 : Hid (∀ b ∈ q4, w20.heap.size ≤ b ∧ b < w21.heap.size) := (show ∀ b ∈ q4, _ from fun b hb => rp4 b (List.mem_append_right _ hb))
  have xl4_0 : Hid (LOwn w21 (.slice la4 ls.length lc4) ls p4) := ol4
  have xt4_0 : Hid (Own w21 d (.slice sa4 (ln d T) sc4) T q4) := ot4
  clear ol4 ot4 rp4
  go_wp2_with fail
  go_at_call 39; refine (CN.out _ B_w21).mono ?_
  rintro e w22 ⟨iv4, i4, rfl, hb_w22, oi4, ri4⟩
  obtain ⟨na4, nc4, rfl, -⟩ := oi4.rep
  have z_w22 : w21.heap.size ≤ w22.heap.size := hb_w22.size
  have box_21 : Hid (C2 w22 w.heap.size (.slice la ls.length lc) (.slice sa (ln d T) sc)) := C2.below box_20.out hb_w22
  clear box_20
  have cl_17 : Hid (LOwn w22 (.slice cla gl.length clc) gl c1) := LOwn.frame (fun b hb' => hb_w22.block b (by have := RLc.out b hb'; omega)) cl_16.out
  clear cl_16
  have ct_17 : Hid (Own w22 d (.slice csa (ln d gT) csc) gT c2) := Own.frame (fun b hb' => hb_w22.block b (by have := RTc.out b hb'; omega)) ct_16.out
  clear ct_16
  have cb_16 : Hid (C2 w22 w4.heap.size (.slice cla gl.length clc) (.slice csa (ln d gT) csc)) := C2.below cb_15.out hb_w22
  clear cb_15
  have gb_11 : Hid (C2 w22 w9.heap.size (.slice gla gl.length glc) (.slice gsa (ln d gT) gsc)) := C2.below gb_10.out hb_w22
  clear gb_10
  have gl_3 : Hid (LOwn w22 (.slice gla gl.length glc) (pf 1 gl.length) g1) := LOwn.frame (fun b hb' => hb_w22.block b (by have := RLg.out b hb'; omega)) gl_2.out
  clear gl_2
  have gt_3 : Hid (Own w22 d (.slice gsa (ln d gT) gsc) (mkT d (1 + 2 * gl.length) gT) g2) := Own.frame (fun b hb' => hb_w22.block b (by have := RTg.out b hb'; omega)) gt_2.out
  clear gt_2
  have xl4_1 : Hid (LOwn w22 (.slice la4 ls.length lc4) ls p4) := LOwn.frame (fun b hb' => hb_w22.block b (by have := RL4.out b hb'; omega)) xl4_0.out
  clear xl4_0
  have xt4_1 : Hid (Own w22 d (.slice sa4 (ln d T) sc4) T q4) := Own.frame (fun b hb' => hb_w22.block b (by have := RT4.out b hb'; omega)) xt4_0.out
  clear xt4_0
  have B_w22 : Below w0.heap.size w0 w22 := Below.then B_w21 hb_w22 B_w21.size
  clear hb_w22 B_w21
  have RI4 : Hid (∀ b ∈ i4, w21.heap.size ≤ b ∧ b < w22.heap.size) := ri4
  have xi4_0 : Hid (GOwn (Value.int .i64) w22 (.slice na4 zs.length nc4) zs i4) := oi4
  clear oi4 ri4
  have CC_w23 : Hid _ := CI.out _ _ _ _ xl4_1.out.rep xt4_1.out.rep xi4_0.out.rep
  clear xl4_1
  clear xt4_1
  clear xi4_0
  go_wp2_with fail
  go_at_call 37; refine Calls.mono CC_w23.out ?_
  rintro e w23 ⟨hhlv, hhsv, hh1, hh2, rfl, hb_w23, olhh, othh, rhh, ndhh, djhh⟩
  obtain ⟨hhla, hhlc, rfl, -⟩ := olhh.rep
  obtain ⟨hhsa, hhsc, rfl⟩ := othh.slice
  clear CC_w23
  have z_w23 : w22.heap.size ≤ w23.heap.size := hb_w23.size
  have box_22 : Hid (C2 w23 w.heap.size (.slice la ls.length lc) (.slice sa (ln d T) sc)) := C2.below box_21.out hb_w23
  clear box_21
  have cl_18 : Hid (LOwn w23 (.slice cla gl.length clc) gl c1) := LOwn.frame (fun b hb' => hb_w23.block b (by have := RLc.out b hb'; omega)) cl_17.out
  clear cl_17
  have ct_18 : Hid (Own w23 d (.slice csa (ln d gT) csc) gT c2) := Own.frame (fun b hb' => hb_w23.block b (by have := RTc.out b hb'; omega)) ct_17.out
  clear ct_17
  have cb_17 : Hid (C2 w23 w4.heap.size (.slice cla gl.length clc) (.slice csa (ln d gT) csc)) := C2.below cb_16.out hb_w23
  clear cb_16
  have gb_12 : Hid (C2 w23 w9.heap.size (.slice gla gl.length glc) (.slice gsa (ln d gT) gsc)) := C2.below gb_11.out hb_w23
  clear gb_11
  have gl_4 : Hid (LOwn w23 (.slice gla gl.length glc) (pf 1 gl.length) g1) := LOwn.frame (fun b hb' => hb_w23.block b (by have := RLg.out b hb'; omega)) gl_3.out
  clear gl_3
  have gt_4 : Hid (Own w23 d (.slice gsa (ln d gT) gsc) (mkT d (1 + 2 * gl.length) gT) g2) := Own.frame (fun b hb' => hb_w23.block b (by have := RTg.out b hb'; omega)) gt_3.out
  clear gt_3
  have B_w23 : Below w0.heap.size w0 w23 := Below.then B_w22 hb_w23 B_w22.size
  clear hb_w23 B_w22
  have RLhh : Hid (∀ b ∈ hh1, w22.heap.size ≤ b ∧ b < w23.heap.size) := (show ∀ b ∈ hh1, _ from fun b hb => rhh b (List.mem_append_left _ hb))
  have RThh : Hid (∀ b ∈ hh2, w22.heap.size ≤ b ∧ b < w23.heap.size) := (show ∀ b ∈ hh2, _ from fun b hb => rhh b (List.mem_append_right _ hb))
  have Rhh : Hid (∀ k ∈ hh1 ++ hh2, w22.heap.size ≤ k ∧ k < w23.heap.size) := rhh
  have hhl_0 : Hid (LOwn w23 (.slice hhla gl.length hhlc) gl hh1) := olhh
  have hht_0 : Hid (Own w23 d (.slice hhsa (ln d gT) hhsc) gT hh2) := othh
  clear olhh othh rhh
  obtain ⟨⟨v0, v1⟩, -⟩ := cb_17.out
  have hb_w24 : Below w23.heap.size w23 (w23.alloc (.cells #[.slice hhla gl.length hhlc, .slice hhsa (ln d gT) hhsc] 43)) := (Below.refl _ _).alloc (Nat.le_refl _) _
  have G_w24 := C2.new w23 (.slice hhla gl.length hhlc) (.slice hhsa (ln d gT) hhsc) 43
  have zz_w24 : (w23.alloc (.cells #[.slice hhla gl.length hhlc, .slice hhsa (ln d gT) hhsc] 43)).heap.size = w23.heap.size + 1 := by simp
  generalize hw_w24 : w23.alloc (.cells #[.slice hhla gl.length hhlc, .slice hhsa (ln d gT) hhsc] 43) = w24 at hb_w24 G_w24 zz_w24
  have HW_w24 : Hid _ := hw_w24
  have HZ_w24 : Hid (w24.heap.size = w23.heap.size + 1) := zz_w24
  clear hw_w24 zz_w24
  have z_w24 : w23.heap.size ≤ w24.heap.size := hb_w24.size
  have box_23 : Hid (C2 w24 w.heap.size (.slice la ls.length lc) (.slice sa (ln d T) sc)) := C2.below box_22.out hb_w24
  clear box_22
  have cl_19 : Hid (LOwn w24 (.slice cla gl.length clc) gl c1) := LOwn.frame (fun b hb' => hb_w24.block b (by have := RLc.out b hb'; omega)) cl_18.out
  clear cl_18
  have ct_19 : Hid (Own w24 d (.slice csa (ln d gT) csc) gT c2) := Own.frame (fun b hb' => hb_w24.block b (by have := RTc.out b hb'; omega)) ct_18.out
  clear ct_18
  have cb_18 : Hid (C2 w24 w4.heap.size (.slice cla gl.length clc) (.slice csa (ln d gT) csc)) := C2.below cb_17.out hb_w24
  clear cb_17
  have gb_13 : Hid (C2 w24 w9.heap.size (.slice gla gl.length glc) (.slice gsa (ln d gT) gsc)) := C2.below gb_12.out hb_w24
  clear gb_12
  have gl_5 : Hid (LOwn w24 (.slice gla gl.length glc) (pf 1 gl.length) g1) := LOwn.frame (fun b hb' => hb_w24.block b (by have := RLg.out b hb'; omega)) gl_4.out
  clear gl_4
  have gt_5 : Hid (Own w24 d (.slice gsa (ln d gT) gsc) (mkT d (1 + 2 * gl.length) gT) g2) := Own.frame (fun b hb' => hb_w24.block b (by have := RTg.out b hb'; omega)) gt_4.out
  clear gt_4
  have hhl_1 : Hid (LOwn w24 (.slice hhla gl.length hhlc) gl hh1) := LOwn.frame (fun b hb' => hb_w24.block b (by have := RLhh.out b hb'; omega)) hhl_0.out
  clear hhl_0
  have hht_1 : Hid (Own w24 d (.slice hhsa (ln d gT) hhsc) gT hh2) := Own.frame (fun b hb' => hb_w24.block b (by have := RThh.out b hb'; omega)) hht_0.out
  clear hht_0
  have B_w24 : Below w0.heap.size w0 w24 := Below.then B_w23 hb_w24 B_w23.size
  clear hb_w24 B_w23
  have hhb_0 : Hid (C2 w24 w23.heap.size (.slice hhla gl.length hhlc) (.slice hhsa (ln d gT) hhsc)) := G_w24
  clear G_w24
  go_wp2_with fail
  rw [HW_w24.out]
  clear HW_w24
  clear v0 v1
  have CE_w25 : Hid _ := eqProg_same hhl_1.out.rep hht_1.out.rep cl_19.out.rep ct_19.out.rep
  go_at_call 43; refine Calls.mono CE_w25.out ?_
  rintro e w25 ⟨rfl, hb_w25⟩
  clear CE_w25
  have z_w25 : w24.heap.size ≤ w25.heap.size := hb_w25.size
  have box_24 : Hid (C2 w25 w.heap.size (.slice la ls.length lc) (.slice sa (ln d T) sc)) := C2.below box_23.out hb_w25
  clear box_23
  have cl_20 : Hid (LOwn w25 (.slice cla gl.length clc) gl c1) := LOwn.frame (fun b hb' => hb_w25.block b (by have := RLc.out b hb'; omega)) cl_19.out
  clear cl_19
  have ct_20 : Hid (Own w25 d (.slice csa (ln d gT) csc) gT c2) := Own.frame (fun b hb' => hb_w25.block b (by have := RTc.out b hb'; omega)) ct_19.out
  clear ct_19
  have cb_19 : Hid (C2 w25 w4.heap.size (.slice cla gl.length clc) (.slice csa (ln d gT) csc)) := C2.below cb_18.out hb_w25
  clear cb_18
  have gb_14 : Hid (C2 w25 w9.heap.size (.slice gla gl.length glc) (.slice gsa (ln d gT) gsc)) := C2.below gb_13.out hb_w25
  clear gb_13
  have gl_6 : Hid (LOwn w25 (.slice gla gl.length glc) (pf 1 gl.length) g1) := LOwn.frame (fun b hb' => hb_w25.block b (by have := RLg.out b hb'; omega)) gl_5.out
  clear gl_5
  have gt_6 : Hid (Own w25 d (.slice gsa (ln d gT) gsc) (mkT d (1 + 2 * gl.length) gT) g2) := Own.frame (fun b hb' => hb_w25.block b (by have := RTg.out b hb'; omega)) gt_5.out
  clear gt_5
  have hhl_2 : Hid (LOwn w25 (.slice hhla gl.length hhlc) gl hh1) := LOwn.frame (fun b hb' => hb_w25.block b (by have := RLhh.out b hb'; omega)) hhl_1.out
  clear hhl_1
  have hht_2 : Hid (Own w25 d (.slice hhsa (ln d gT) hhsc) gT hh2) := Own.frame (fun b hb' => hb_w25.block b (by have := RThh.out b hb'; omega)) hht_1.out
  clear hht_1
  have hhb_1 : Hid (C2 w25 w23.heap.size (.slice hhla gl.length hhlc) (.slice hhsa (ln d gT) hhsc)) := C2.below hhb_0.out hb_w25
  clear hhb_0
  have B_w25 : Below w0.heap.size w0 w25 := Below.then B_w24 hb_w25 B_w24.size
  clear hb_w25 B_w24
  have CH_w26 : Hid _ := heldProg_any (n := gl.length) gl_6.out.rep gt_6.out.rep l0 l1
  obtain ⟨⟨u0, u1⟩, -⟩ := gb_14.out
  go_wp2_with fail
  clear u0 u1
  go_at_call 46; refine Calls.mono CH_w26.out ?_
  rintro e w26 ⟨rfl, hb_w26⟩
  rw [HMM.out]
  clear CH_w26
  have z_w26 : w25.heap.size ≤ w26.heap.size := hb_w26.size
  have box_25 : Hid (C2 w26 w.heap.size (.slice la ls.length lc) (.slice sa (ln d T) sc)) := C2.below box_24.out hb_w26
  clear box_24
  have cl_21 : Hid (LOwn w26 (.slice cla gl.length clc) gl c1) := LOwn.frame (fun b hb' => hb_w26.block b (by have := RLc.out b hb'; omega)) cl_20.out
  clear cl_20
  have ct_21 : Hid (Own w26 d (.slice csa (ln d gT) csc) gT c2) := Own.frame (fun b hb' => hb_w26.block b (by have := RTc.out b hb'; omega)) ct_20.out
  clear ct_20
  have cb_20 : Hid (C2 w26 w4.heap.size (.slice cla gl.length clc) (.slice csa (ln d gT) csc)) := C2.below cb_19.out hb_w26
  clear cb_19
  have gb_15 : Hid (C2 w26 w9.heap.size (.slice gla gl.length glc) (.slice gsa (ln d gT) gsc)) := C2.below gb_14.out hb_w26
  clear gb_14
  have gl_7 : Hid (LOwn w26 (.slice gla gl.length glc) (pf 1 gl.length) g1) := LOwn.frame (fun b hb' => hb_w26.block b (by have := RLg.out b hb'; omega)) gl_6.out
  clear gl_6
  have gt_7 : Hid (Own w26 d (.slice gsa (ln d gT) gsc) (mkT d (1 + 2 * gl.length) gT) g2) := Own.frame (fun b hb' => hb_w26.block b (by have := RTg.out b hb'; omega)) gt_6.out
  clear gt_6
  have hhl_3 : Hid (LOwn w26 (.slice hhla gl.length hhlc) gl hh1) := LOwn.frame (fun b hb' => hb_w26.block b (by have := RLhh.out b hb'; omega)) hhl_2.out
  clear hhl_2
  have hht_3 : Hid (Own w26 d (.slice hhsa (ln d gT) hhsc) gT hh2) := Own.frame (fun b hb' => hb_w26.block b (by have := RThh.out b hb'; omega)) hht_2.out
  clear hht_2
  have hhb_2 : Hid (C2 w26 w23.heap.size (.slice hhla gl.length hhlc) (.slice hhsa (ln d gT) hhsc)) := C2.below hhb_1.out hb_w26
  clear hhb_1
  have B_w26 : Below w0.heap.size w0 w26 := Below.then B_w25 hb_w26 B_w25.size
  clear hb_w26 B_w25
  go_wp2
  go_ret
  exact ⟨rfl, Below.then HA.out B_w26 HA.out.size⟩

end Go.Proofs.Ytfmhdjnambnglaa
