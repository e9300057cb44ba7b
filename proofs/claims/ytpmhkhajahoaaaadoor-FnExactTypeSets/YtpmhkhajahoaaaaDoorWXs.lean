/- At every argument TypeSets answers as the specification says: the law, walked. -/
import Derived.Test.YtpmhkhajahoaaaaDoorTss
import Derived.Test.YtpmhkhajahoaaaaDoorTks
import Derived.Test.YtpmhkhajahoaaaaDoorToC
import Derived.Test.YtpmhkhajahoaaaaDoorSqx
import Derived.Test.YtpmhkhajahoaaaaDoorFrs
import Derived.Test.YtpmhkhajahoaaaaDoorOpn
import Derived.Test.YtpmhkhajahoaaaaDoorMkC
import Derived.Test.YtpmhkhajahoaaaaDoorRwx
import Derived.Test.YtpmhkhajahoaaaaDoorRtx
namespace Go.Proofs.YtpmhkhajahoaaaaDoor
open Go.RowKit
set_option linter.unusedSimpArgs false
set_option linter.unusedVariables false
attribute [local go_sem ↓] Go.wp_at_zero Go.wp_at_succ
attribute [local go_sem] World.cell?_alloc_some

theorem C2.frame {w w' : World} {b : Nat} {v0 v1 : Value} (h : C2 w b v0 v1) (hb : w'.heap[b]? = w.heap[b]?) : C2 w' b v0 v1 := by
  obtain ⟨⟨c0, c1⟩, f0, f1⟩ := h
  have hc : ∀ o, w'.cell? ⟨b, o, none⟩ = w.cell? ⟨b, o, none⟩ := fun o => World.cell?_of_block hb
  have hf : ∀ o, w'.frozen? ⟨b, o, none⟩ = w.frozen? ⟨b, o, none⟩ := fun o => World.frozen?_of_block (a := ⟨b, o, none⟩) hb
  exact ⟨⟨(hc 0).trans c0, (hc 1).trans c1⟩, (hf 0).trans f0, (hf 1).trans f1⟩
theorem C2.lt {w : World} {b : Nat} {v0 v1 : Value} (h : C2 w b v0 v1) : b < w.heap.size := World.block_lt_of_cell? w _ h.1.1
theorem C2.below {w w' : World} {b : Nat} {v0 v1 : Value} (h : C2 w b v0 v1) (hb : Below w.heap.size w w') : C2 w' b v0 v1 := h.frame (hb.block b h.lt)
theorem SP1 {w wz : World} {a1 a2 a3 a4 : Addr} {v1 v2 v3 v4 : Value} (h : (wz.cell? a1 = some v1 ∧ wz.cell? a2 = some v2) ∧ (wz.cell? a3 = some v3 ∧ wz.cell? a4 = some v4) ∧ Below w.heap.size w wz) : (wz.drew.cell? a1 = some v1 ∧ wz.drew.cell? a2 = some v2) ∧ (wz.drew.cell? a3 = some v3 ∧ wz.drew.cell? a4 = some v4) ∧ Below w.heap.size w wz.drew := ⟨h.1, h.2.1, h.2.2.drew⟩
theorem SP2 {w wz wx : World} {a1 a2 a3 a4 : Addr} {v1 v2 v3 v4 : Value} (h : (wz.cell? a1 = some v1 ∧ wz.cell? a2 = some v2) ∧ (wz.cell? a3 = some v3 ∧ wz.cell? a4 = some v4) ∧ Below w.heap.size w wz) (hb : Below wz.heap.size wz wx) : (wx.cell? a1 = some v1 ∧ wx.cell? a2 = some v2) ∧ (wx.cell? a3 = some v3 ∧ wx.cell? a4 = some v4) ∧ Below w.heap.size w wx :=
  ⟨⟨cell_later hb h.1.1, cell_later hb h.1.2⟩, ⟨cell_later hb h.2.1.1, cell_later hb h.2.1.2⟩, Below.then h.2.2 hb h.2.2.size⟩

/-- A new row of labels, or of numbers, in blocks of its own. -/
def RwPostL (w : World) (xs : List (Int × Int)) (e : Ending) (w' : World) : Prop := ∃ (a : Option Addr) (c : Nat) (bs : List Nat), e = .returned (.slice a xs.length c) ∧ Below w.heap.size w w' ∧ LOwn w' (.slice a xs.length c) xs bs ∧ (∀ b ∈ bs, w.heap.size ≤ b ∧ b < w'.heap.size)
def RwPostG (w : World) (xs : List Int) (e : Ending) (w' : World) : Prop := ∃ (a : Option Addr) (c : Nat) (bs : List Nat), e = .returned (.slice a xs.length c) ∧ Below w.heap.size w w' ∧ GOwn (Value.int .i64) w' (.slice a xs.length c) xs bs ∧ (∀ b ∈ bs, w.heap.size ≤ b ∧ b < w'.heap.size)
theorem RwPostL.of {w : World} {xs : List (Int × Int)} {v : Value} {w' : World} (hb : Below w.heap.size w w') (h : w'.ownsRow w.heap.size 30 2 v xs.length (pcells xs)) : RwPostL w xs (.returned v) w' := by
  obtain ⟨a, c, rfl⟩ := rowt_slice h
  obtain ⟨bs, ho, hbs⟩ := row_pown h
  exact ⟨a, c, bs, rfl, hb, ho, fun b hb' => World.ownsRow.lt h b (hbs b hb')⟩
theorem RwPostG.of {w : World} {xs : List Int} {v : Value} {w' : World} (hb : Below w.heap.size w w') (h : w'.ownsRow w.heap.size 3 1 v xs.length (xs.map (Value.int .i64))) : RwPostG w xs (.returned v) w' := by
  obtain ⟨a, c, rfl⟩ := rowt_slice h
  obtain ⟨bs, ho, hbs⟩ := row_gown h
  exact ⟨a, c, bs, rfl, hb, ho, fun b hb' => World.ownsRow.lt h b (hbs b hb')⟩

set_option maxHeartbeats 8000000 in
set_option maxRecDepth 20000 in
theorem fnExactTypeSets_walk {d : Nat} {T : Tr d} {lv sv : Value} {ls : List (Int × Int)} (w : World) (e0 e1 : Addr) (hg0 : w.cell? ⟨0, 0, none⟩ = some (.iface 152 (.pointer (some e0)))) (hg1 : w.cell? ⟨1, 0, none⟩ = some (.iface 152 (.pointer (some e1)))) (hL : LRep w lv ls) (hR : Rep w d sv T) :
    Calls Tryd.prog 13 #[.agg #[lv, sv]] w fun e w' => e = .returned (.bool true) ∧ Below w.heap.size w w' := by
  have HG0 : Hid _ := hg0
  have HG1 : Hid _ := hg1
  clear hg0 hg1
  obtain ⟨la, lc, hv0, -⟩ := id hL
  obtain ⟨sa, sc, hv1⟩ := id hR.slice
  subst hv0 hv1
  have A : Below w.heap.size w (w.alloc (.cells #[.slice la ls.length lc, .slice sa (ln d T) sc] 51)) := (Below.refl _ _).alloc (Nat.le_refl _) _
  have G := C2.new w (.slice la ls.length lc) (.slice sa (ln d T) sc) 51
  generalize hW0 : w.alloc (.cells #[.slice la ls.length lc, .slice sa (ln d T) sc] 51) = w0 at A G
  have HW0 : Hid _ := hW0
  have hw0 : w0.heap.size = w.heap.size + 1 := by rw [← hW0]; simp
  have HS0 : Hid (w0.heap.size = w.heap.size + 1) := hw0
  have HL : Hid (∀ w', Below w0.heap.size w0 w' → LRep w' (.slice la ls.length lc) ls) := (show ∀ w', _ from fun w' hb => (hL.below A).below hb)
  have HR : Hid (∀ w', Below w0.heap.size w0 w' → Rep w' d (.slice sa (ln d T) sc) T) := (show ∀ w', _ from fun w' hb => (hR.below A).below hb)
  have C0 : Hid _ := szProg_any (left := 1048576) (hL.below A) (hR.below A) (by decide) (by decide)
  have HA : Hid (Below w.heap.size w w0) := A
  have B_w0 : Below w0.heap.size w0 w0 := Below.refl _ _
  clear hL hR hW0 A hw0
  have box_0 : Hid (C2 w0 w.heap.size (.slice la ls.length lc) (.slice sa (ln d T) sc)) := G
  clear G
  go_enter Tryd.func13, Tryd.ntmps13
  go_wp2_with fail
  rw [HW0.out]
  clear HW0
  go_at_call 31; refine Calls.mono C0.out ?_; rintro e w1 ⟨rfl, hb1⟩
  clear C0
  have z_w1 : w0.heap.size ≤ w1.heap.size := hb1.size
  have box_1 : Hid (C2 w1 w.heap.size (.slice la ls.length lc) (.slice sa (ln d T) sc)) := C2.below box_0.out hb1
  clear box_0
  have B_w1 : Below w0.heap.size w0 w1 := Below.then B_w0 hb1 B_w0.size
  clear hb1 B_w0
  by_cases hsz : ((ls.length + cnt d T : Nat) : Int) ≤ 1048576
  case neg =>
    rw [szR_neg hsz]
    go_wp2
    go_ret
    exact ⟨rfl, Below.then HA.out B_w1 HA.out.size⟩
  rw [szR_pos hsz]
  have h0 : ¬ (1048576 - ((ls.length + cnt d T : Nat) : Int) < 0) := by omega
  have h0' : 0 ≤ 1048576 - ((ls.length + cnt d T : Nat) : Int) := by omega
  have hlen : ls.length ≤ 1048576 := by omega
  have hcn : cnt d T ≤ 1048576 := by omega
  have CT : Hid (∀ wx, Below w0.heap.size w0 wx → Calls Tryd.prog 32 #[.agg #[.slice la ls.length lc, .slice sa (ln d T) sc]] wx fun e w' => ∃ lv' sv' b1 b2, e = .returned (.agg #[lv', sv']) ∧ Below wx.heap.size wx w' ∧ LOwn w' lv' ls b1 ∧ Own w' d sv' T b2 ∧ (∀ b ∈ b1 ++ b2, wx.heap.size ≤ b ∧ b < w'.heap.size) ∧ b2.Nodup ∧ (∀ b ∈ b1, b ∉ b2)) := (show ∀ wx, _ from fun wx hb => toProg_any (HL.out wx hb) (HR.out wx hb) hlen hcn)
  have lx : (seR ls d T).length ≤ 1048576 := (by unfold seR; split; rw [setsL_length]; exact hcn; simp)
  have CS : Hid (∀ (lv sv : Value) (wx : World), LRep wx lv ls → Rep wx d sv T → Calls Tryd.prog 23 #[.agg #[lv, sv]] wx (RwPostG wx (seR ls d T))) := (show ∀ (lv sv : Value) (wx : World), _ from fun _ _ _ a b => (sTypeSets_any a b hcn).mono (fun e w' ⟨v, e1, h1, h2⟩ => by subst e1; exact RwPostG.of h1 h2))
  have CI : Hid (∀ (lv sv : Value) (wx : World), Below w0.heap.size w0 wx → LRep wx lv ls → Rep wx d sv T → Calls Tryd.prog 21 #[.agg #[lv, sv]] wx (RwPostG wx (seR ls d T))) := (show ∀ (lv sv : Value) (wx : World), _ from fun _ _ wx hb a b => (typeSets_any a b (cell_later (HA.out.trans (hb.mono HA.out.size)) HG0.out) (cell_later (HA.out.trans (hb.mono HA.out.size)) HG1.out)).mono (fun e w' ⟨v, e1, h1, h2⟩ => by subst e1; exact RwPostG.of h1 h2))
  generalize (seR ls d T) = xs at CS CI lx
  generalize hkk : 1048576 - ((ls.length + cnt d T : Nat) : Int) = z at h0 h0' ⊢
  clear hkk
  obtain ⟨⟨x0, x1⟩, -⟩ := box_1.out
  go_wp2_with fail
  clear x0 x1
  go_at_call 32; refine (CT.out _ B_w1).mono ?_
  rintro e w2 ⟨lv1, sv1, p1, q1, rfl, hb_w2, ol1, ot1, rp1, nd1, dj1⟩
  obtain ⟨la1, lc1, rfl, -⟩ := ol1.rep
  obtain ⟨sa1, sc1, rfl⟩ := ot1.slice
  have z_w2 : w1.heap.size ≤ w2.heap.size := hb_w2.size
  have box_2 : Hid (C2 w2 w.heap.size (.slice la ls.length lc) (.slice sa (ln d T) sc)) := C2.below box_1.out hb_w2
  clear box_1
  have B_w2 : Below w0.heap.size w0 w2 := Below.then B_w1 hb_w2 B_w1.size
  clear hb_w2 B_w1
  have RL1 : Hid (∀ b ∈ p1, w1.heap.size ≤ b ∧ b < w2.heap.size) := (show ∀ b ∈ p1, _ from fun b hb => rp1 b (List.mem_append_left _ hb))
  have RT1 : Hid (∀ b ∈ q1, w1.heap.size ≤ b ∧ b < w2.heap.size) := (show ∀ b ∈ q1, _ from fun b hb => rp1 b (List.mem_append_right _ hb))
  have xl1_0 : Hid (LOwn w2 (.slice la1 ls.length lc1) ls p1) := ol1
  have xt1_0 : Hid (Own w2 d (.slice sa1 (ln d T) sc1) T q1) := ot1
  clear ol1 ot1 rp1
  have CC_w3 : Hid _ := CS.out _ _ _ xl1_0.out.rep xt1_0.out.rep
  clear xl1_0
  clear xt1_0
  go_wp2_with fail
  go_at_call 23; refine Calls.mono CC_w3.out ?_
  rintro e w3 ⟨ca, cc, cb, rfl, hb_w3, oc, rc⟩
  clear CC_w3
  have z_w3 : w2.heap.size ≤ w3.heap.size := hb_w3.size
  have box_3 : Hid (C2 w3 w.heap.size (.slice la ls.length lc) (.slice sa (ln d T) sc)) := C2.below box_2.out hb_w3
  clear box_2
  have B_w3 : Below w0.heap.size w0 w3 := Below.then B_w2 hb_w3 B_w2.size
  clear hb_w3 B_w2
  have Rc : Hid (∀ b ∈ cb, w2.heap.size ≤ b ∧ b < w3.heap.size) := rc
  have c_0 : Hid (GOwn (Value.int .i64) w3 (.slice ca xs.length cc) xs cb) := oc
  clear oc rc
  obtain ⟨⟨x0, x1⟩, -⟩ := box_3.out
  go_wp2_with fail
  clear x0 x1
  go_at_call 32; refine (CT.out _ B_w3).mono ?_
  rintro e w4 ⟨lv2, sv2, p2, q2, rfl, hb_w4, ol2, ot2, rp2, nd2, dj2⟩
  obtain ⟨la2, lc2, rfl, -⟩ := ol2.rep
  obtain ⟨sa2, sc2, rfl⟩ := ot2.slice
  have z_w4 : w3.heap.size ≤ w4.heap.size := hb_w4.size
  have box_4 : Hid (C2 w4 w.heap.size (.slice la ls.length lc) (.slice sa (ln d T) sc)) := C2.below box_3.out hb_w4
  clear box_3
  have c_1 : Hid (GOwn (Value.int .i64) w4 (.slice ca xs.length cc) xs cb) := GOwn.frame (fun b hb' => hb_w4.block b (by have := Rc.out b hb'; omega)) c_0.out
  clear c_0
  have B_w4 : Below w0.heap.size w0 w4 := Below.then B_w3 hb_w4 B_w3.size
  clear hb_w4 B_w3
  have RL2 : Hid (∀ b ∈ p2, w3.heap.size ≤ b ∧ b < w4.heap.size) := (show ∀ b ∈ p2, _ from fun b hb => rp2 b (List.mem_append_left _ hb))
  have RT2 : Hid (∀ b ∈ q2, w3.heap.size ≤ b ∧ b < w4.heap.size) := (show ∀ b ∈ q2, _ from fun b hb => rp2 b (List.mem_append_right _ hb))
  have xl2_0 : Hid (LOwn w4 (.slice la2 ls.length lc2) ls p2) := ol2
  have xt2_0 : Hid (Own w4 d (.slice sa2 (ln d T) sc2) T q2) := ot2
  clear ol2 ot2 rp2
  have hb_w5 : Below w4.heap.size w4 (w4.alloc (.cells #[.slice la2 ls.length lc2, .slice sa2 (ln d T) sc2] 26)) := (Below.refl _ _).alloc (Nat.le_refl _) _
  have G_w5 := C2.new w4 (.slice la2 ls.length lc2) (.slice sa2 (ln d T) sc2) 26
  have zz_w5 : (w4.alloc (.cells #[.slice la2 ls.length lc2, .slice sa2 (ln d T) sc2] 26)).heap.size = w4.heap.size + 1 := by simp
  generalize hw_w5 : w4.alloc (.cells #[.slice la2 ls.length lc2, .slice sa2 (ln d T) sc2] 26) = w5 at hb_w5 G_w5 zz_w5
  have HW_w5 : Hid _ := hw_w5
  have HZ_w5 : Hid (w5.heap.size = w4.heap.size + 1) := zz_w5
  clear hw_w5 zz_w5
  have z_w5 : w4.heap.size ≤ w5.heap.size := hb_w5.size
  have box_5 : Hid (C2 w5 w.heap.size (.slice la ls.length lc) (.slice sa (ln d T) sc)) := C2.below box_4.out hb_w5
  clear box_4
  have c_2 : Hid (GOwn (Value.int .i64) w5 (.slice ca xs.length cc) xs cb) := GOwn.frame (fun b hb' => hb_w5.block b (by have := Rc.out b hb'; omega)) c_1.out
  clear c_1
  have xl2_1 : Hid (LOwn w5 (.slice la2 ls.length lc2) ls p2) := LOwn.frame (fun b hb' => hb_w5.block b (by have := RL2.out b hb'; omega)) xl2_0.out
  clear xl2_0
  have xt2_1 : Hid (Own w5 d (.slice sa2 (ln d T) sc2) T q2) := Own.frame (fun b hb' => hb_w5.block b (by have := RT2.out b hb'; omega)) xt2_0.out
  clear xt2_0
  have B_w5 : Below w0.heap.size w0 w5 := Below.then B_w4 hb_w5 B_w4.size
  clear hb_w5 B_w4
  have xb_0 : Hid (C2 w5 w4.heap.size (.slice la2 ls.length lc2) (.slice sa2 (ln d T) sc2)) := G_w5
  clear G_w5
  go_wp2_with fail
  rw [HW_w5.out]
  clear HW_w5
  obtain ⟨⟨y0, y1⟩, -⟩ := xb_0.out
  have CC_w6 : Hid _ := CI.out _ _ _ B_w5 xl2_1.out.rep xt2_1.out.rep
  clear y0 y1
  go_at_call 21; refine Calls.mono CC_w6.out ?_
  rintro e w6 ⟨ga, gc, gb, rfl, hb_w6, og, rg⟩
  clear CC_w6
  have z_w6 : w5.heap.size ≤ w6.heap.size := hb_w6.size
  have box_6 : Hid (C2 w6 w.heap.size (.slice la ls.length lc) (.slice sa (ln d T) sc)) := C2.below box_5.out hb_w6
  clear box_5
  have c_3 : Hid (GOwn (Value.int .i64) w6 (.slice ca xs.length cc) xs cb) := GOwn.frame (fun b hb' => hb_w6.block b (by have := Rc.out b hb'; omega)) c_2.out
  clear c_2
  have xl2_2 : Hid (LOwn w6 (.slice la2 ls.length lc2) ls p2) := LOwn.frame (fun b hb' => hb_w6.block b (by have := RL2.out b hb'; omega)) xl2_1.out
  clear xl2_1
  have xt2_2 : Hid (Own w6 d (.slice sa2 (ln d T) sc2) T q2) := Own.frame (fun b hb' => hb_w6.block b (by have := RT2.out b hb'; omega)) xt2_1.out
  clear xt2_1
  have xb_1 : Hid (C2 w6 w4.heap.size (.slice la2 ls.length lc2) (.slice sa2 (ln d T) sc2)) := C2.below xb_0.out hb_w6
  clear xb_0
  have B_w6 : Below w0.heap.size w0 w6 := Below.then B_w5 hb_w6 B_w5.size
  clear hb_w6 B_w5
  have Rg : Hid (∀ b ∈ gb, w5.heap.size ≤ b ∧ b < w6.heap.size) := rg
  have g_0 : Hid (GOwn (Value.int .i64) w6 (.slice ga xs.length gc) xs gb) := og
  clear og rg
  have CE_w7 : Hid _ := eqIntS_same g_0.out.rep c_3.out.rep
  go_wp2_with fail
  go_at_call 38; refine Calls.mono CE_w7.out ?_
  rintro e w7 ⟨rfl, hb_w7⟩
  clear CE_w7
  have z_w7 : w6.heap.size ≤ w7.heap.size := hb_w7.size
  have box_7 : Hid (C2 w7 w.heap.size (.slice la ls.length lc) (.slice sa (ln d T) sc)) := C2.below box_6.out hb_w7
  clear box_6
  have c_4 : Hid (GOwn (Value.int .i64) w7 (.slice ca xs.length cc) xs cb) := GOwn.frame (fun b hb' => hb_w7.block b (by have := Rc.out b hb'; omega)) c_3.out
  clear c_3
  have xl2_3 : Hid (LOwn w7 (.slice la2 ls.length lc2) ls p2) := LOwn.frame (fun b hb' => hb_w7.block b (by have := RL2.out b hb'; omega)) xl2_2.out
  clear xl2_2
  have xt2_3 : Hid (Own w7 d (.slice sa2 (ln d T) sc2) T q2) := Own.frame (fun b hb' => hb_w7.block b (by have := RT2.out b hb'; omega)) xt2_2.out
  clear xt2_2
  have xb_2 : Hid (C2 w7 w4.heap.size (.slice la2 ls.length lc2) (.slice sa2 (ln d T) sc2)) := C2.below xb_1.out hb_w7
  clear xb_1
  have g_1 : Hid (GOwn (Value.int .i64) w7 (.slice ga xs.length gc) xs gb) := GOwn.frame (fun b hb' => hb_w7.block b (by have := Rg.out b hb'; omega)) g_0.out
  clear g_0
  have B_w7 : Below w0.heap.size w0 w7 := Below.then B_w6 hb_w7 B_w6.size
  clear hb_w7 B_w6
  obtain ⟨⟨x0, x1⟩, -⟩ := box_7.out
  obtain ⟨⟨y0, y1⟩, -⟩ := xb_2.out
  go_wp2_with fail
  refine wp_region_held (S := (fun wz => (wz.cell? ⟨w.heap.size, 0, none⟩ = some (.slice la ls.length lc) ∧ wz.cell? ⟨w.heap.size, 1, none⟩ = some (.slice sa (ln d T) sc)) ∧ (wz.cell? ⟨w4.heap.size, 0, none⟩ = some (.slice la2 ls.length lc2) ∧ wz.cell? ⟨w4.heap.size, 1, none⟩ = some (.slice sa2 (ln d T) sc2)) ∧ Below w7.heap.size w7 wz)) (by kernel_rfl) ?_
  change wpAnyH _ _ _ _ _ _ _ _ (World.drew _)
  have hHeld := SP1 ⟨⟨x0, x1⟩, ⟨y0, y1⟩, Below.refl w7.heap.size w7⟩
  refine' wpAnyH_take (i := 0) (v := .agg #[.slice la2 ls.length lc2, .slice sa2 (ln d T) sc2]) rfl (by kernel_rfl) (by kernel_rfl) (by kernel_rfl) (fun _ _ _ h => h) (Or.inl ⟨by rfl, ?hy1⟩) hHeld ?hn1
  case hy1 => (intro wz hSw; obtain ⟨_, ⟨k0, k1⟩, _⟩ := hSw; go_simp)
  try simp only [List.getElem_toArray, List.getElem_cons_zero, List.getElem_cons_succ, Act.put, List.setIfInBounds_toArray, List.set_cons_zero, List.set_cons_succ]
  refine' wpAnyH_take (i := 1) (v := .agg #[.slice la ls.length lc, .slice sa (ln d T) sc]) rfl (by kernel_rfl) (by kernel_rfl) (by kernel_rfl) (fun _ _ _ h => h) (Or.inl ⟨by rfl, ?hy2⟩) hHeld ?hn2
  case hy2 => (intro wz hSw; obtain ⟨⟨k0, k1⟩, _, _⟩ := hSw; go_simp)
  try simp only [List.getElem_toArray, List.getElem_cons_zero, List.getElem_cons_succ, Act.put, List.setIfInBounds_toArray, List.set_cons_zero, List.set_cons_succ]
  refine wpAnyH_ready (rs := [2]) (by kernel_rfl) (by simp) ?_
  refine AllReadyH.cons rfl (fun K hK => ?_) AllReadyH.nil
  go_simp
  refine (CT.out _ (Below.then B_w7 hHeld.2.2 B_w7.size)).mono ?_; rintro e' w8 ⟨lv9, sv9, _, _, rfl, hbx, ol9, ot9, -, -, -⟩; obtain ⟨la9, lc9, rfl, -⟩ := ol9.rep; obtain ⟨sa9, sc9, rfl⟩ := ot9.slice; have CE : Hid _ := eqProg_same (LRep.below (Below.then hHeld.2.2 hbx hHeld.2.2.size) xl2_3.out.rep) (Rep.below (Below.then hHeld.2.2 hbx hHeld.2.2.size) xt2_3.out.rep) ol9.rep ot9.rep
  refine hK.out _ _ (SP2 hHeld hbx) (fun hHeld => ?_)
  clear hK K
  refine wpAnyH_ready (rs := [3]) (by kernel_rfl) (by simp) ?_
  refine AllReadyH.cons rfl (fun K hK => ?_) AllReadyH.nil
  go_simp
  refine Calls.mono CE.out ?_; rintro e' w9 ⟨rfl, hbx⟩
  refine hK.out _ _ (SP2 hHeld hbx) (fun hHeld => ?_)
  clear hK K
  refine' wpAnyH_take (i := 4) (v := _) rfl (by kernel_rfl) (by kernel_rfl) (by kernel_rfl) (fun _ _ _ h => h) (Or.inl ⟨by rfl, ?hy3⟩) hHeld ?hn3
  case hy3 => (intro wz hSw; (try dsimp only at hSw); go_simp; first | done | with_reducible rfl)
  try simp only [List.getElem_toArray, List.getElem_cons_zero, List.getElem_cons_succ, Act.put, List.setIfInBounds_toArray, List.set_cons_zero, List.set_cons_succ]
  refine wpAnyH_done (by kernel_rfl) ?_ _
  clear x0 x1 y0 y1
  obtain ⟨-, -, hb_w9⟩ := hHeld
  clear CE
  have z_w9 : w7.heap.size ≤ w9.heap.size := hb_w9.size
  have box_8 : Hid (C2 w9 w.heap.size (.slice la ls.length lc) (.slice sa (ln d T) sc)) := C2.below box_7.out hb_w9
  clear box_7
  have c_5 : Hid (GOwn (Value.int .i64) w9 (.slice ca xs.length cc) xs cb) := GOwn.frame (fun b hb' => hb_w9.block b (by have := Rc.out b hb'; omega)) c_4.out
  clear c_4
  have xl2_4 : Hid (LOwn w9 (.slice la2 ls.length lc2) ls p2) := LOwn.frame (fun b hb' => hb_w9.block b (by have := RL2.out b hb'; omega)) xl2_3.out
  clear xl2_3
  have xt2_4 : Hid (Own w9 d (.slice sa2 (ln d T) sc2) T q2) := Own.frame (fun b hb' => hb_w9.block b (by have := RT2.out b hb'; omega)) xt2_3.out
  clear xt2_3
  have xb_3 : Hid (C2 w9 w4.heap.size (.slice la2 ls.length lc2) (.slice sa2 (ln d T) sc2)) := C2.below xb_2.out hb_w9
  clear xb_2
  have g_2 : Hid (GOwn (Value.int .i64) w9 (.slice ga xs.length gc) xs gb) := GOwn.frame (fun b hb' => hb_w9.block b (by have := Rg.out b hb'; omega)) g_1.out
  clear g_1
  have B_w9 : Below w0.heap.size w0 w9 := Below.then B_w7 hb_w9 B_w7.size
  clear hb_w9 B_w7
  have CM : Hid _ := markProg_any xl2_4.out xt2_4.out (fun b hb' => by rcases List.mem_append.1 hb' with hb' | hb'; (have := RL2.out b hb'; omega); (have := RT2.out b hb'; omega)) nd2 dj2 hlen hcn
  have RX2 : Hid (∀ b ∈ p2 ++ q2, w3.heap.size ≤ b ∧ b < w4.heap.size) := (show ∀ b ∈ p2 ++ q2, _ from fun b hb' => by rcases List.mem_append.1 hb' with hb' | hb'; exact RL2.out b hb'; exact RT2.out b hb')
  obtain ⟨⟨y0, y1⟩, -⟩ := xb_3.out
  go_wp2_with fail
  clear y0 y1
  go_at_call 35; refine Calls.mono CM.out ?_
  rintro e w10 ⟨rfl, fs10⟩
  clear xl2_4
  clear xt2_4
  clear xb_3
  have := HZ_w5.out
  have := HS0.out
  have z_w10 : w9.heap.size ≤ w10.heap.size := fs10.size
  have box_9 : Hid (C2 w10 w.heap.size (.slice la ls.length lc) (.slice sa (ln d T) sc)) := C2.frame box_8.out (fs10.block w.heap.size (C2.lt box_8.out) (fun hm => by have := RX2.out _ hm; omega))
  clear box_8
  have c_6 : Hid (GOwn (Value.int .i64) w10 (.slice ca xs.length cc) xs cb) := GOwn.frame (fun b hb' => fs10.block b (by have := Rc.out b hb'; omega) (fun hm => by have := RX2.out b hm; have := Rc.out b hb'; omega)) c_5.out
  clear c_5
  have g_3 : Hid (GOwn (Value.int .i64) w10 (.slice ga xs.length gc) xs gb) := GOwn.frame (fun b hb' => fs10.block b (by have := Rg.out b hb'; omega) (fun hm => by have := RX2.out b hm; have := Rg.out b hb'; omega)) g_2.out
  clear g_2
  have B_w10 : Below w0.heap.size w0 w10 := B_w9.trans (fs10.below (fun b hb' => by have := RX2.out b hb'; omega) B_w9.size)
  clear B_w9
  clear fs10 CM
  have k0 : ¬ (1 + 2 * (ls.length : Int) + 6 * (cnt d T : Int) < 0) := by omega
  have k0' : 0 ≤ 1 + 2 * (ls.length : Int) + 6 * (cnt d T : Int) := by omega
  generalize 1 + 2 * (ls.length : Int) + 6 * (cnt d T : Int) = kk at k0 k0' ⊢
  have CE_w11 : Hid _ := eqIntS_same g_3.out.rep c_6.out.rep
  go_wp2_with fail
  go_at_call 38; refine Calls.mono CE_w11.out ?_
  rintro e w11 ⟨rfl, hb_w11⟩
  clear CE_w11
  have z_w11 : w10.heap.size ≤ w11.heap.size := hb_w11.size
  have box_10 : Hid (C2 w11 w.heap.size (.slice la ls.length lc) (.slice sa (ln d T) sc)) := C2.below box_9.out hb_w11
  clear box_9
  have c_7 : Hid (GOwn (Value.int .i64) w11 (.slice ca xs.length cc) xs cb) := GOwn.frame (fun b hb' => hb_w11.block b (by have := Rc.out b hb'; omega)) c_6.out
  clear c_6
  have g_4 : Hid (GOwn (Value.int .i64) w11 (.slice ga xs.length gc) xs gb) := GOwn.frame (fun b hb' => hb_w11.block b (by have := Rg.out b hb'; omega)) g_3.out
  clear g_3
  have B_w11 : Below w0.heap.size w0 w11 := Below.then B_w10 hb_w11 B_w10.size
  clear hb_w11 B_w10
  have CN : Hid _ := markIntS_any (k := 1) g_4.out (by decide) (by omega)
  go_wp2_with fail
  go_at_call 39; refine Calls.mono CN.out ?_
  rintro e w12 ⟨rfl, fr12, og⟩
  clear g_4
  have fs12 : Fs gb w11 w12 := Fs.of_fr fr12
  clear fr12 CN
  have z_w12 : w11.heap.size ≤ w12.heap.size := fs12.size
  have box_11 : Hid (C2 w12 w.heap.size (.slice la ls.length lc) (.slice sa (ln d T) sc)) := C2.frame box_10.out (fs12.block w.heap.size (C2.lt box_10.out) (fun hm => by have := Rg.out _ hm; omega))
  clear box_10
  have c_8 : Hid (GOwn (Value.int .i64) w12 (.slice ca xs.length cc) xs cb) := GOwn.frame (fun b hb' => fs12.block b (by have := Rc.out b hb'; omega) (fun hm => by have := Rg.out b hm; have := Rc.out b hb'; omega)) c_7.out
  clear c_7
  have B_w12 : Below w0.heap.size w0 w12 := B_w11.trans (fs12.below (fun b hb' => by have := Rg.out b hb'; omega) B_w11.size)
  clear B_w11
  have g_0 : Hid (GOwn (Value.int .i64) w12 (.slice ga xs.length gc) (nf 1 xs.length) gb) := og
  clear og fs12
  have m0 : 0 ≤ 1 + (xs.length : Int) := by omega
  have m1 : ¬ (1 + (xs.length : Int) < 0) := by omega
  obtain ⟨mm, hmm⟩ : ∃ m : Int, 1 + (xs.length : Int) = m := ⟨_, rfl⟩
  rw [hmm] at m0 m1 ⊢
  have HMM : Hid _ := hmm
  clear hmm
  have CH_w13 : Hid _ := heldIntS_any (n := xs.length) (k := 1) g_0.out.rep (by decide) (by omega)
  go_wp2_with fail
  go_at_call 40; refine Calls.mono CH_w13.out ?_
  rintro e w13 ⟨rfl, hb_w13⟩
  rw [HMM.out]
  clear CH_w13
  have z_w13 : w12.heap.size ≤ w13.heap.size := hb_w13.size
  have box_12 : Hid (C2 w13 w.heap.size (.slice la ls.length lc) (.slice sa (ln d T) sc)) := C2.below box_11.out hb_w13
  clear box_11
  have c_9 : Hid (GOwn (Value.int .i64) w13 (.slice ca xs.length cc) xs cb) := GOwn.frame (fun b hb' => hb_w13.block b (by have := Rc.out b hb'; omega)) c_8.out
  clear c_8
  have g_1 : Hid (GOwn (Value.int .i64) w13 (.slice ga xs.length gc) (nf 1 xs.length) gb) := GOwn.frame (fun b hb' => hb_w13.block b (by have := Rg.out b hb'; omega)) g_0.out
  clear g_0
  have B_w13 : Below w0.heap.size w0 w13 := Below.then B_w12 hb_w13 B_w12.size
  clear hb_w13 B_w12
  obtain ⟨⟨x0, x1⟩, -⟩ := box_12.out
  go_wp2_with fail
  clear x0 x1
  go_at_call 32; refine (CT.out _ B_w13).mono ?_
  rintro e w14 ⟨lv4, sv4, p4, q4, rfl, hb_w14, ol4, ot4, rp4, nd4, dj4⟩
  obtain ⟨la4, lc4, rfl, -⟩ := ol4.rep
  obtain ⟨sa4, sc4, rfl⟩ := ot4.slice
  have z_w14 : w13.heap.size ≤ w14.heap.size := hb_w14.size
  have box_13 : Hid (C2 w14 w.heap.size (.slice la ls.length lc) (.slice sa (ln d T) sc)) := C2.below box_12.out hb_w14
  clear box_12
  have c_10 : Hid (GOwn (Value.int .i64) w14 (.slice ca xs.length cc) xs cb) := GOwn.frame (fun b hb' => hb_w14.block b (by have := Rc.out b hb'; omega)) c_9.out
  clear c_9
  have g_2 : Hid (GOwn (Value.int .i64) w14 (.slice ga xs.length gc) (nf 1 xs.length) gb) := GOwn.frame (fun b hb' => hb_w14.block b (by have := Rg.out b hb'; omega)) g_1.out
  clear g_1
  have B_w14 : Below w0.heap.size w0 w14 := Below.then B_w13 hb_w14 B_w13.size
  clear hb_w14 B_w13
  have RL4 : Hid (∀ b ∈ p4, w13.heap.size ≤ b ∧ b < w14.heap.size) := (show ∀ b ∈ p4, _ from fun b hb => rp4 b (List.mem_append_left _ hb))
  have RT4 : Hid (∀ b ∈ q4, w13.heap.size ≤ b ∧ b < w14.heap.size) := (show ∀ b ∈ q4, _ from fun b hb => rp4 b (List.mem_append_right _ hb))
  have xl4_0 : Hid (LOwn w14 (.slice la4 ls.length lc4) ls p4) := ol4
  have xt4_0 : Hid (Own w14 d (.slice sa4 (ln d T) sc4) T q4) := ot4
  clear ol4 ot4 rp4
  have CC_w15 : Hid _ := CI.out _ _ _ B_w14 xl4_0.out.rep xt4_0.out.rep
  clear xl4_0
  clear xt4_0
  go_wp2_with fail
  go_at_call 21; refine Calls.mono CC_w15.out ?_
  rintro e w15 ⟨hha, hhc, hhb, rfl, hb_w15, ohh, rhh⟩
  clear CC_w15
  have z_w15 : w14.heap.size ≤ w15.heap.size := hb_w15.size
  have box_14 : Hid (C2 w15 w.heap.size (.slice la ls.length lc) (.slice sa (ln d T) sc)) := C2.below box_13.out hb_w15
  clear box_13
  have c_11 : Hid (GOwn (Value.int .i64) w15 (.slice ca xs.length cc) xs cb) := GOwn.frame (fun b hb' => hb_w15.block b (by have := Rc.out b hb'; omega)) c_10.out
  clear c_10
  have g_3 : Hid (GOwn (Value.int .i64) w15 (.slice ga xs.length gc) (nf 1 xs.length) gb) := GOwn.frame (fun b hb' => hb_w15.block b (by have := Rg.out b hb'; omega)) g_2.out
  clear g_2
  have B_w15 : Below w0.heap.size w0 w15 := Below.then B_w14 hb_w15 B_w14.size
  clear hb_w15 B_w14
  have Rhh : Hid (∀ b ∈ hhb, w14.heap.size ≤ b ∧ b < w15.heap.size) := rhh
  have hh_0 : Hid (GOwn (Value.int .i64) w15 (.slice hha xs.length hhc) xs hhb) := ohh
  clear ohh rhh
  have CE_w16 : Hid _ := eqIntS_same hh_0.out.rep c_11.out.rep
  go_wp2_with fail
  go_at_call 38; refine Calls.mono CE_w16.out ?_
  rintro e w16 ⟨rfl, hb_w16⟩
  clear CE_w16
  have z_w16 : w15.heap.size ≤ w16.heap.size := hb_w16.size
  have box_15 : Hid (C2 w16 w.heap.size (.slice la ls.length lc) (.slice sa (ln d T) sc)) := C2.below box_14.out hb_w16
  clear box_14
  have c_12 : Hid (GOwn (Value.int .i64) w16 (.slice ca xs.length cc) xs cb) := GOwn.frame (fun b hb' => hb_w16.block b (by have := Rc.out b hb'; omega)) c_11.out
  clear c_11
  have g_4 : Hid (GOwn (Value.int .i64) w16 (.slice ga xs.length gc) (nf 1 xs.length) gb) := GOwn.frame (fun b hb' => hb_w16.block b (by have := Rg.out b hb'; omega)) g_3.out
  clear g_3
  have hh_1 : Hid (GOwn (Value.int .i64) w16 (.slice hha xs.length hhc) xs hhb) := GOwn.frame (fun b hb' => hb_w16.block b (by have := Rhh.out b hb'; omega)) hh_0.out
  clear hh_0
  have B_w16 : Below w0.heap.size w0 w16 := Below.then B_w15 hb_w16 B_w15.size
  clear hb_w16 B_w15
  have CH_w17 : Hid _ := heldIntS_any (n := xs.length) (k := 1) g_4.out.rep (by decide) (by omega)
  go_wp2_with fail
  go_at_call 40; refine Calls.mono CH_w17.out ?_
  rintro e w17 ⟨rfl, hb_w17⟩
  rw [HMM.out]
  clear CH_w17
  have z_w17 : w16.heap.size ≤ w17.heap.size := hb_w17.size
  have box_16 : Hid (C2 w17 w.heap.size (.slice la ls.length lc) (.slice sa (ln d T) sc)) := C2.below box_15.out hb_w17
  clear box_15
  have c_13 : Hid (GOwn (Value.int .i64) w17 (.slice ca xs.length cc) xs cb) := GOwn.frame (fun b hb' => hb_w17.block b (by have := Rc.out b hb'; omega)) c_12.out
  clear c_12
  have g_5 : Hid (GOwn (Value.int .i64) w17 (.slice ga xs.length gc) (nf 1 xs.length) gb) := GOwn.frame (fun b hb' => hb_w17.block b (by have := Rg.out b hb'; omega)) g_4.out
  clear g_4
  have hh_2 : Hid (GOwn (Value.int .i64) w17 (.slice hha xs.length hhc) xs hhb) := GOwn.frame (fun b hb' => hb_w17.block b (by have := Rhh.out b hb'; omega)) hh_1.out
  clear hh_1
  have B_w17 : Below w0.heap.size w0 w17 := Below.then B_w16 hb_w17 B_w16.size
  clear hb_w17 B_w16
  go_wp2
  go_ret
  exact ⟨rfl, Below.then HA.out B_w17 HA.out.size⟩

end Go.Proofs.YtpmhkhajahoaaaaDoor
