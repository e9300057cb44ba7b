/- The exact law of RunOf, walked. -/
import Derived.Test.YtpcmhkcahajdgaaRfx
import Derived.Test.YtpcmhkcahajdgaaRgo
import Derived.Test.YtpcmhkcahajdgaaToC
import Derived.Test.YtpcmhkcahajdgaaEqs
import Derived.Test.YtpcmhkcahajdgaaMkC
import Derived.Test.YtpcmhkcahajdgaaFrs
namespace Go.Proofs.Ytpcmhkcahajdgaa
open Go.RowKit
set_option linter.unusedSimpArgs false
set_option linter.unusedVariables false
attribute [local go_sem ↓] Go.wp_at_zero Go.wp_at_succ
attribute [local go_sem] World.cell?_alloc_some

/-- Two cells of one block, that may be written. -/
def C2 (w : World) (b : Nat) (v0 v1 : Value) : Prop :=
  (w.cell? ⟨b, 0, none⟩ = some v0 ∧ w.cell? ⟨b, 1, none⟩ = some v1) ∧ w.frozen? ⟨b, 0, none⟩ = false ∧ w.frozen? ⟨b, 1, none⟩ = false
theorem C2.frame {w w' : World} {b : Nat} {v0 v1 : Value} (h : C2 w b v0 v1) (hb : w'.heap[b]? = w.heap[b]?) : C2 w' b v0 v1 := by
  obtain ⟨⟨c0, c1⟩, f0, f1⟩ := h
  have hc : ∀ o, w'.cell? ⟨b, o, none⟩ = w.cell? ⟨b, o, none⟩ := fun o => World.cell?_of_block hb
  have hf : ∀ o, w'.frozen? ⟨b, o, none⟩ = w.frozen? ⟨b, o, none⟩ := fun o => World.frozen?_of_block (a := ⟨b, o, none⟩) hb
  exact ⟨⟨(hc 0).trans c0, (hc 1).trans c1⟩, (hf 0).trans f0, (hf 1).trans f1⟩
theorem C2.lt {w : World} {b : Nat} {v0 v1 : Value} (h : C2 w b v0 v1) : b < w.heap.size := World.block_lt_of_cell? w _ h.1.1
theorem C2.below {w w' : World} {b : Nat} {v0 v1 : Value} (h : C2 w b v0 v1) (hb : Below w.heap.size w w') : C2 w' b v0 v1 := h.frame (hb.block b h.lt)
theorem C2.new (w : World) (v0 v1 : Value) (T : TypeId) : C2 (w.alloc (.cells #[v0, v1] T)) w.heap.size v0 v1 := by
  refine ⟨⟨?_, ?_⟩, ?_, ?_⟩ <;> simp
theorem SP1 {w wz : World} {a1 a2 a3 a4 : Addr} {v1 v2 v3 v4 : Value} (h : (wz.cell? a1 = some v1 ∧ wz.cell? a2 = some v2) ∧ (wz.cell? a3 = some v3 ∧ wz.cell? a4 = some v4) ∧ Below w.heap.size w wz) : (wz.drew.cell? a1 = some v1 ∧ wz.drew.cell? a2 = some v2) ∧ (wz.drew.cell? a3 = some v3 ∧ wz.drew.cell? a4 = some v4) ∧ Below w.heap.size w wz.drew := ⟨h.1, h.2.1, h.2.2.drew⟩
theorem SP2 {w wz wx : World} {a1 a2 a3 a4 : Addr} {v1 v2 v3 v4 : Value} (h : (wz.cell? a1 = some v1 ∧ wz.cell? a2 = some v2) ∧ (wz.cell? a3 = some v3 ∧ wz.cell? a4 = some v4) ∧ Below w.heap.size w wz) (hb : Below wz.heap.size wz wx) : (wx.cell? a1 = some v1 ∧ wx.cell? a2 = some v2) ∧ (wx.cell? a3 = some v3 ∧ wx.cell? a4 = some v4) ∧ Below w.heap.size w wx :=
  ⟨⟨cell_later hb h.1.1, cell_later hb h.1.2⟩, ⟨cell_later hb h.2.1.1, cell_later hb h.2.1.2⟩, Below.then h.2.2 hb h.2.2.size⟩

theorem runS_lens (ls : List (Int × Int)) (d : Nat) (T : Tr d) (zs : List Int) : (runS ls d T zs).n.length ≤ max zs.length 0 ∧ (runS ls d T zs).ws.length ≤ 8 ∧ (runS ls d T zs).ss.length ≤ 8 := by
  unfold runS
  split
  · rename_i h
    unfold numsB progB at h
    simp only [Bool.and_eq_true_iff, decide_eq_true_eq] at h
    have q := doT_ok d T ls.length 3 ⟨zs, [], []⟩ h.1.2.2.1 h.2.1 h.2.2
    have h2 := h.2.1
    have h4 := h.1.2.2.2
    obtain ⟨q0, -, q1, q2⟩ := q
    simp at q1 q2
    omega
  · simp

set_option maxHeartbeats 8000000 in
set_option maxRecDepth 20000 in
theorem fnExactRunOf_walk {d : Nat} {T : Tr d} {lv sv nv : Value} {ls : List (Int × Int)} {zs : List Int} (w : World) (hL : LRep w lv ls) (hR : Rep w d sv T) (hN : GRep (Value.int .i64) w nv zs) :
    Calls Try.prog 18 #[.agg #[lv, sv], nv] w fun e w' => e = .returned (.bool true) ∧ Below w.heap.size w w' := by
  obtain ⟨la, lc, hv0, -⟩ := id hL
  obtain ⟨sa, sc, hv1⟩ := id hR.slice
  obtain ⟨na, nc, hv2, hnl, hnm, -⟩ := id hN
  subst hv0 hv1 hv2
  have A : Below w.heap.size w (w.alloc (.cells #[.slice la ls.length lc, .slice sa (ln d T) sc] 69)) := (Below.refl _ _).alloc (Nat.le_refl _) _
  have G := C2.new w (.slice la ls.length lc) (.slice sa (ln d T) sc) 69
  generalize hW0 : w.alloc (.cells #[.slice la ls.length lc, .slice sa (ln d T) sc] 69) = w0 at A G
  have HW0 : Hid _ := hW0
  have hw0 : w0.heap.size = w.heap.size + 1 := by rw [← hW0]; simp
  have HS0 : Hid (w0.heap.size = w.heap.size + 1) := hw0
  have HL : Hid (∀ w', Below w0.heap.size w0 w' → LRep w' (.slice la ls.length lc) ls) := (show ∀ w', _ from fun w' hb => (hL.below A).below hb)
  have HR : Hid (∀ w', Below w0.heap.size w0 w' → Rep w' d (.slice sa (ln d T) sc) T) := (show ∀ w', _ from fun w' hb => (hR.below A).below hb)
  have HN : Hid (∀ w', Below w0.heap.size w0 w' → GRep (Value.int .i64) w' (.slice na zs.length nc) zs) := (show ∀ w', _ from fun w' hb => (hN.below A).below hb)
  have C0 : Hid _ := szProg_any (left := 1048576) (hL.below A) (hR.below A) (by decide) (by decide)
  have HA : Hid (Below w.heap.size w w0) := A
  have B_w0 : Below w0.heap.size w0 w0 := Below.refl _ _
  clear hL hR hN hW0 A hw0
  have box_0 : Hid (C2 w0 w.heap.size (.slice la ls.length lc) (.slice sa (ln d T) sc)) := G
  clear G
  by_cases hlv : (1048576 : Int) < (zs.length : Int)
  case pos =>
    go_enter Try.func18, Try.ntmps18
    go_wp2_with fail
    rw [HW0.out]
    go_ret
    exact ⟨rfl, HA.out⟩
  have lz : zs.length ≤ 1048576 := by omega
  go_enter Try.func18, Try.ntmps18
  go_wp2_with fail
  rw [HW0.out]
  clear HW0
  go_at_call 50; refine Calls.mono C0.out ?_; rintro e w1 ⟨rfl, hb1⟩
  clear C0
  have z_w1 : w0.heap.size ≤ w1.heap.size := hb1.size
  have box_1 : Hid (C2 w1 w.heap.size (.slice la ls.length lc) (.slice sa (ln d T) sc)) := C2.below box_0.out hb1
  clear box_0
  have B_w1 : Below w0.heap.size w0 w1 := Below.then B_w0 hb1 B_w0.size
  clear hb1 B_w0
  by_cases hsz : ((ls.length + cnt d T : Nat) : Int) ≤ 1048576
  case neg =>
    rw [szR_neg hsz]
    go_wp2
    go_ret
    exact ⟨rfl, Below.then HA.out B_w1 HA.out.size⟩
  rw [szR_pos hsz]
  have h0 : ¬ (1048576 - ((ls.length + cnt d T : Nat) : Int) < 0) := by omega
  have h0' : 0 ≤ 1048576 - ((ls.length + cnt d T : Nat) : Int) := by omega
  have hlen : ls.length ≤ 1048576 := by omega
  have hcn : cnt d T ≤ 1048576 := by omega
  have CT : Hid (∀ wx, Below w0.heap.size w0 wx → Calls Try.prog 51 #[.agg #[.slice la ls.length lc, .slice sa (ln d T) sc]] wx fun e w' => ∃ lv' sv' b1 b2, e = .returned (.agg #[lv', sv']) ∧ Below wx.heap.size wx w' ∧ LOwn w' lv' ls b1 ∧ Own w' d sv' T b2 ∧ (∀ b ∈ b1 ++ b2, wx.heap.size ≤ b ∧ b < w'.heap.size) ∧ b2.Nodup ∧ (∀ b ∈ b1, b ∉ b2)) := (show ∀ wx, _ from fun wx hb => toProg_any (HL.out wx hb) (HR.out wx hb) hlen hcn)
  have CN : Hid (∀ wx, Below w0.heap.size w0 wx → Calls Try.prog 57 #[.slice na zs.length nc] wx fun e w' => ∃ v' bs, e = .returned v' ∧ (∃ ad n c, v' = .slice (some ad) n c) ∧ Below wx.heap.size wx w' ∧ GOwn (Value.int .i64) w' v' zs bs ∧ (∀ b ∈ bs, wx.heap.size ≤ b ∧ b < w'.heap.size)) := (show ∀ wx, _ from fun wx hb => toIntS_nn (HN.out wx hb) lz)
  have CS : Hid (∀ (lv sv : Value) (ad : Addr) (nc : Nat) (wx : World), LRep wx lv ls → Rep wx d sv T → GRep (Value.int .i64) wx (.slice (some ad) zs.length nc) zs → Calls Try.prog 30 #[.agg #[lv, sv], .slice (some ad) zs.length nc] wx fun e w' => ∃ a b c b0 b1 b2, e = .returned (.tuple #[.agg #[a, b, c], .bool (numsB ls d T zs)]) ∧ Below wx.heap.size wx w' ∧ ROwn w' a b c (runS ls d T zs).n (runS ls d T zs).ws (runS ls d T zs).ss b0 b1 b2 ∧ (∀ k ∈ b0 ++ b1 ++ b2, wx.heap.size ≤ k ∧ k < w'.heap.size) ∧ Apart b0 b1 b2) := (show ∀ (lv sv : Value) (ad : Addr) (nc : Nat) (wx : World), _ from fun _ _ _ _ _ a b c => (sRunOf_any a b hcn c).mono (by rintro e w' ⟨a, b, c, rfl, hb, h⟩; obtain ⟨b0, b1, b2, o, r, ap⟩ := h.rown; exact ⟨a, b, c, b0, b1, b2, rfl, hb, o, r, ap⟩))
  have CI : Hid (∀ (lv sv : Value) (ad : Addr) (nc : Nat) (wx : World), LRep wx lv ls → Rep wx d sv T → GRep (Value.int .i64) wx (.slice (some ad) zs.length nc) zs → Calls Try.prog 31 #[.agg #[lv, sv], .slice (some ad) zs.length nc] wx fun e w' => ∃ a b c b0 b1 b2, e = .returned (.tuple #[.agg #[a, b, c], .bool (numsB ls d T zs)]) ∧ Below wx.heap.size wx w' ∧ ROwn w' a b c (runS ls d T zs).n (runS ls d T zs).ws (runS ls d T zs).ss b0 b1 b2 ∧ (∀ k ∈ b0 ++ b1 ++ b2, wx.heap.size ≤ k ∧ k < w'.heap.size) ∧ Apart b0 b1 b2) := (show ∀ (lv sv : Value) (ad : Addr) (nc : Nat) (wx : World), _ from fun _ _ _ _ _ a b c => (runOf_any a b c).mono (by rintro e w' ⟨a, b, c, rfl, hb, h⟩; obtain ⟨b0, b1, b2, o, r, ap⟩ := h.rown; exact ⟨a, b, c, b0, b1, b2, rfl, hb, o, r, ap⟩))
  obtain ⟨l0, l1, l2⟩ := runS_lens ls d T zs
  generalize (runS ls d T zs).n = rn at CS CI l0
  generalize (runS ls d T zs).ws = rw' at CS CI l1
  generalize (runS ls d T zs).ss = rs at CS CI l2
  generalize numsB ls d T zs = res at CS CI
  generalize 1048576 - ((ls.length + cnt d T : Nat) : Int) = z at h0 h0' ⊢
  obtain ⟨⟨x0, x1⟩, -⟩ := box_1.out
  go_wp2_with fail
  clear x0 x1
  go_at_call 51; refine (CT.out _ B_w1).mono ?_
  rintro e w2 ⟨lv1, sv1, p1, q1, rfl, hb_w2, ol1, ot1, rp1, nd1, dj1⟩
  obtain ⟨la1, lc1, rfl, -⟩ := ol1.rep
  obtain ⟨sa1, sc1, rfl⟩ := ot1.slice
  have z_w2 : w1.heap.size ≤ w2.heap.size := hb_w2.size
  have box_2 : Hid (C2 w2 w.heap.size (.slice la ls.length lc) (.slice sa (ln d T) sc)) := C2.below box_1.out hb_w2
  clear box_1
  have B_w2 : Below w0.heap.size w0 w2 := Below.then B_w1 hb_w2 B_w1.size
  clear hb_w2 B_w1
  have RL1 : Hid (∀ b ∈ p1, w1.heap.size ≤ b ∧ b < w2.heap.size) := (show ∀ b ∈ p1, _ from fun b hb => rp1 b (List.mem_append_left _ hb))
  have RT1 : Hid (∀ b ∈ q1, w1.heap.size ≤ b ∧ b < w2.heap.size) := (show ∀ b ∈ q1, _ from fun b hb => rp1 b (List.mem_append_right _ hb))
  have xl1_0 : Hid (LOwn w2 (.slice la1 ls.length lc1) ls p1) := ol1
  have xt1_0 : Hid (Own w2 d (.slice sa1 (ln d T) sc1) T q1) := ot1
  clear ol1 ot1 rp1
  go_wp2_with fail
  go_at_call 57; refine (CN.out _ B_w2).mono ?_
  rintro e w3 ⟨iv1, i1, rfl, ⟨ad1, m1, nc1, rfl⟩, hb_w3, oi1, ri1⟩
  obtain ⟨_, _, hq1, -⟩ := oi1.rep
  obtain rfl : m1 = zs.length := by injection hq1
  clear hq1
  have z_w3 : w2.heap.size ≤ w3.heap.size := hb_w3.size
  have box_3 : Hid (C2 w3 w.heap.size (.slice la ls.length lc) (.slice sa (ln d T) sc)) := C2.below box_2.out hb_w3
  clear box_2
  have xl1_1 : Hid (LOwn w3 (.slice la1 ls.length lc1) ls p1) := LOwn.frame (fun b hb' => hb_w3.block b (by have := RL1.out b hb'; omega)) xl1_0.out
  clear xl1_0
  have xt1_1 : Hid (Own w3 d (.slice sa1 (ln d T) sc1) T q1) := Own.frame (fun b hb' => hb_w3.block b (by have := RT1.out b hb'; omega)) xt1_0.out
  clear xt1_0
  have B_w3 : Below w0.heap.size w0 w3 := Below.then B_w2 hb_w3 B_w2.size
  clear hb_w3 B_w2
  have RI1 : Hid (∀ b ∈ i1, w2.heap.size ≤ b ∧ b < w3.heap.size) := ri1
  have xi1_0 : Hid (GOwn (Value.int .i64) w3 (.slice (some ad1) zs.length nc1) zs i1) := oi1
  clear oi1 ri1
  have CC_w4 : Hid _ := CS.out _ _ _ _ _ xl1_1.out.rep xt1_1.out.rep xi1_0.out.rep
  clear xl1_1
  clear xt1_1
  clear xi1_0
  go_wp2_with fail
  go_at_call 30; refine Calls.mono CC_w4.out ?_
  rintro e w4 ⟨cnv, cwv, csv, c0, c1, c2, rfl, hb_w4, oc, rc, apc⟩
  obtain ⟨cna, cnc, rfl, -⟩ := oc.n.rep
  obtain ⟨cwa, cwc, rfl, -⟩ := oc.wr.rep
  obtain ⟨csa, csc, rfl, -⟩ := oc.sd.rep
  clear CC_w4
  have z_w4 : w3.heap.size ≤ w4.heap.size := hb_w4.size
  have box_4 : Hid (C2 w4 w.heap.size (.slice la ls.length lc) (.slice sa (ln d T) sc)) := C2.below box_3.out hb_w4
  clear box_3
  have B_w4 : Below w0.heap.size w0 w4 := Below.then B_w3 hb_w4 B_w3.size
  clear hb_w4 B_w3
  have Rc : Hid (∀ k ∈ c0 ++ c1 ++ c2, w3.heap.size ≤ k ∧ k < w4.heap.size) := rc
  have c_0 : Hid (ROwn w4 (.slice cna rn.length cnc) (.slice cwa rw'.length cwc) (.slice csa rs.length csc) rn rw' rs c0 c1 c2) := oc
  clear oc rc
  obtain ⟨⟨x0, x1⟩, -⟩ := box_4.out
  have hb_w5 : Below w4.heap.size w4 (w4.alloc (.cells #[.slice cna rn.length cnc, .slice cwa rw'.length cwc, .slice csa rs.length csc] 47)) := (Below.refl _ _).alloc (Nat.le_refl _) _
  have G_w5 := C3.new w4 (.slice cna rn.length cnc) (.slice cwa rw'.length cwc) (.slice csa rs.length csc) 47
  have zz_w5 : (w4.alloc (.cells #[.slice cna rn.length cnc, .slice cwa rw'.length cwc, .slice csa rs.length csc] 47)).heap.size = w4.heap.size + 1 := by simp
  generalize hw_w5 : w4.alloc (.cells #[.slice cna rn.length cnc, .slice cwa rw'.length cwc, .slice csa rs.length csc] 47) = w5 at hb_w5 G_w5 zz_w5
  have HW_w5 : Hid _ := hw_w5
  have HZ_w5 : Hid (w5.heap.size = w4.heap.size + 1) := zz_w5
  clear hw_w5 zz_w5
  have z_w5 : w4.heap.size ≤ w5.heap.size := hb_w5.size
  have box_5 : Hid (C2 w5 w.heap.size (.slice la ls.length lc) (.slice sa (ln d T) sc)) := C2.below box_4.out hb_w5
  clear box_4
  have c_1 : Hid (ROwn w5 (.slice cna rn.length cnc) (.slice cwa rw'.length cwc) (.slice csa rs.length csc) rn rw' rs c0 c1 c2) := ROwn.frame c_0.out (fun b hb' => hb_w5.block b (by have := Rc.out b hb'; omega))
  clear c_0
  have B_w5 : Below w0.heap.size w0 w5 := Below.then B_w4 hb_w5 B_w4.size
  clear hb_w5 B_w4
  have cb_0 : Hid (C3 w5 w4.heap.size (.slice cna rn.length cnc) (.slice cwa rw'.length cwc) (.slice csa rs.length csc)) := G_w5
  clear G_w5
  go_wp2_with fail
  rw [HW_w5.out]
  clear HW_w5
  clear x0 x1
  go_at_call 51; refine (CT.out _ B_w5).mono ?_
  rintro e w6 ⟨lv2, sv2, p2, q2, rfl, hb_w6, ol2, ot2, rp2, nd2, dj2⟩
  obtain ⟨la2, lc2, rfl, -⟩ := ol2.rep
  obtain ⟨sa2, sc2, rfl⟩ := ot2.slice
  have z_w6 : w5.heap.size ≤ w6.heap.size := hb_w6.size
  have box_6 : Hid (C2 w6 w.heap.size (.slice la ls.length lc) (.slice sa (ln d T) sc)) := C2.below box_5.out hb_w6
  clear box_5
  have c_2 : Hid (ROwn w6 (.slice cna rn.length cnc) (.slice cwa rw'.length cwc) (.slice csa rs.length csc) rn rw' rs c0 c1 c2) := ROwn.frame c_1.out (fun b hb' => hb_w6.block b (by have := Rc.out b hb'; omega))
  clear c_1
  have cb_1 : Hid (C3 w6 w4.heap.size (.slice cna rn.length cnc) (.slice cwa rw'.length cwc) (.slice csa rs.length csc)) := C3.below cb_0.out hb_w6
  clear cb_0
  have B_w6 : Below w0.heap.size w0 w6 := Below.then B_w5 hb_w6 B_w5.size
  clear hb_w6 B_w5
  have RL2 : Hid (∀ b ∈ p2, w5.heap.size ≤ b ∧ b < w6.heap.size) := (show ∀ b ∈ p2, _ from fun b hb => rp2 b (List.mem_append_left _ hb))
  have RT2 : Hid (∀ b ∈ q2, w5.heap.size ≤ b ∧ b < w6.heap.size) := (show ∀ b ∈ q2, _ from fun b hb => rp2 b (List.mem_append_right _ hb))
  have xl2_0 : Hid (LOwn w6 (.slice la2 ls.length lc2) ls p2) := ol2
  have xt2_0 : Hid (Own w6 d (.slice sa2 (ln d T) sc2) T q2) := ot2
  clear ol2 ot2 rp2
  have hb_w7 : Below w6.heap.size w6 (w6.alloc (.cells #[.slice la2 ls.length lc2, .slice sa2 (ln d T) sc2] 26)) := (Below.refl _ _).alloc (Nat.le_refl _) _
  have G_w7 := C2.new w6 (.slice la2 ls.length lc2) (.slice sa2 (ln d T) sc2) 26
  have zz_w7 : (w6.alloc (.cells #[.slice la2 ls.length lc2, .slice sa2 (ln d T) sc2] 26)).heap.size = w6.heap.size + 1 := by simp
  generalize hw_w7 : w6.alloc (.cells #[.slice la2 ls.length lc2, .slice sa2 (ln d T) sc2] 26) = w7 at hb_w7 G_w7 zz_w7
  have HW_w7 : Hid _ := hw_w7
  have HZ_w7 : Hid (w7.heap.size = w6.heap.size + 1) := zz_w7
  clear hw_w7 zz_w7
  have z_w7 : w6.heap.size ≤ w7.heap.size := hb_w7.size
  have box_7 : Hid (C2 w7 w.heap.size (.slice la ls.length lc) (.slice sa (ln d T) sc)) := C2.below box_6.out hb_w7
  clear box_6
  have c_3 : Hid (ROwn w7 (.slice cna rn.length cnc) (.slice cwa rw'.length cwc) (.slice csa rs.length csc) rn rw' rs c0 c1 c2) := ROwn.frame c_2.out (fun b hb' => hb_w7.block b (by have := Rc.out b hb'; omega))
  clear c_2
  have cb_2 : Hid (C3 w7 w4.heap.size (.slice cna rn.length cnc) (.slice cwa rw'.length cwc) (.slice csa rs.length csc)) := C3.below cb_1.out hb_w7
  clear cb_1
  have xl2_1 : Hid (LOwn w7 (.slice la2 ls.length lc2) ls p2) := LOwn.frame (fun b hb' => hb_w7.block b (by have := RL2.out b hb'; omega)) xl2_0.out
  clear xl2_0
  have xt2_1 : Hid (Own w7 d (.slice sa2 (ln d T) sc2) T q2) := Own.frame (fun b hb' => hb_w7.block b (by have := RT2.out b hb'; omega)) xt2_0.out
  clear xt2_0
  have B_w7 : Below w0.heap.size w0 w7 := Below.then B_w6 hb_w7 B_w6.size
  clear hb_w7 B_w6
  have xb_0 : Hid (C2 w7 w6.heap.size (.slice la2 ls.length lc2) (.slice sa2 (ln d T) sc2)) := G_w7
  clear G_w7
  go_wp2_with fail
  rw [HW_w7.out]
  clear HW_w7
  go_at_call 57; refine (CN.out _ B_w7).mono ?_
  rintro e w8 ⟨iv2, i2, rfl, ⟨ad2, m2, nc2, rfl⟩, hb_w8, oi2, ri2⟩
  obtain ⟨_, _, hq2, -⟩ := oi2.rep
  obtain rfl : m2 = zs.length := by injection hq2
  clear hq2
  have z_w8 : w7.heap.size ≤ w8.heap.size := hb_w8.size
  have box_8 : Hid (C2 w8 w.heap.size (.slice la ls.length lc) (.slice sa (ln d T) sc)) := C2.below box_7.out hb_w8
  clear box_7
  have c_4 : Hid (ROwn w8 (.slice cna rn.length cnc) (.slice cwa rw'.length cwc) (.slice csa rs.length csc) rn rw' rs c0 c1 c2) := ROwn.frame c_3.out (fun b hb' => hb_w8.block b (by have := Rc.out b hb'; omega))
  clear c_3
  have cb_3 : Hid (C3 w8 w4.heap.size (.slice cna rn.length cnc) (.slice cwa rw'.length cwc) (.slice csa rs.length csc)) := C3.below cb_2.out hb_w8
  clear cb_2
  have xl2_2 : Hid (LOwn w8 (.slice la2 ls.length lc2) ls p2) := LOwn.frame (fun b hb' => hb_w8.block b (by have := RL2.out b hb'; omega)) xl2_1.out
  clear xl2_1
  have xt2_2 : Hid (Own w8 d (.slice sa2 (ln d T) sc2) T q2) := Own.frame (fun b hb' => hb_w8.block b (by have := RT2.out b hb'; omega)) xt2_1.out
  clear xt2_1
  have xb_1 : Hid (C2 w8 w6.heap.size (.slice la2 ls.length lc2) (.slice sa2 (ln d T) sc2)) := C2.below xb_0.out hb_w8
  clear xb_0
  have B_w8 : Below w0.heap.size w0 w8 := Below.then B_w7 hb_w8 B_w7.size
  clear hb_w8 B_w7
  have RI2 : Hid (∀ b ∈ i2, w7.heap.size ≤ b ∧ b < w8.heap.size) := ri2
  have xi2_0 : Hid (GOwn (Value.int .i64) w8 (.slice (some ad2) zs.length nc2) zs i2) := oi2
  clear oi2 ri2
  obtain ⟨⟨y0, y1⟩, -⟩ := xb_1.out
  have CC_w9 : Hid _ := CI.out _ _ _ _ _ xl2_2.out.rep xt2_2.out.rep xi2_0.out.rep
  go_wp2_with fail
  clear y0 y1
  go_at_call 31; refine Calls.mono CC_w9.out ?_
  rintro e w9 ⟨gnv, gwv, gsv, g0, g1, g2, rfl, hb_w9, og, rg, apg⟩
  obtain ⟨gna, gnc, rfl, -⟩ := og.n.rep
  obtain ⟨gwa, gwc, rfl, -⟩ := og.wr.rep
  obtain ⟨gsa, gsc, rfl, -⟩ := og.sd.rep
  clear CC_w9
  have z_w9 : w8.heap.size ≤ w9.heap.size := hb_w9.size
  have box_9 : Hid (C2 w9 w.heap.size (.slice la ls.length lc) (.slice sa (ln d T) sc)) := C2.below box_8.out hb_w9
  clear box_8
  have c_5 : Hid (ROwn w9 (.slice cna rn.length cnc) (.slice cwa rw'.length cwc) (.slice csa rs.length csc) rn rw' rs c0 c1 c2) := ROwn.frame c_4.out (fun b hb' => hb_w9.block b (by have := Rc.out b hb'; omega))
  clear c_4
  have cb_4 : Hid (C3 w9 w4.heap.size (.slice cna rn.length cnc) (.slice cwa rw'.length cwc) (.slice csa rs.length csc)) := C3.below cb_3.out hb_w9
  clear cb_3
  have xl2_3 : Hid (LOwn w9 (.slice la2 ls.length lc2) ls p2) := LOwn.frame (fun b hb' => hb_w9.block b (by have := RL2.out b hb'; omega)) xl2_2.out
  clear xl2_2
  have xt2_3 : Hid (Own w9 d (.slice sa2 (ln d T) sc2) T q2) := Own.frame (fun b hb' => hb_w9.block b (by have := RT2.out b hb'; omega)) xt2_2.out
  clear xt2_2
  have xb_2 : Hid (C2 w9 w6.heap.size (.slice la2 ls.length lc2) (.slice sa2 (ln d T) sc2)) := C2.below xb_1.out hb_w9
  clear xb_1
  have xi2_1 : Hid (GOwn (Value.int .i64) w9 (.slice (some ad2) zs.length nc2) zs i2) := GOwn.frame (fun b hb' => hb_w9.block b (by have := RI2.out b hb'; omega)) xi2_0.out
  clear xi2_0
  have B_w9 : Below w0.heap.size w0 w9 := Below.then B_w8 hb_w9 B_w8.size
  clear hb_w9 B_w8
  have Rg : Hid (∀ k ∈ g0 ++ g1 ++ g2, w8.heap.size ≤ k ∧ k < w9.heap.size) := rg
  have g_0 : Hid (ROwn w9 (.slice gna rn.length gnc) (.slice gwa rw'.length gwc) (.slice gsa rs.length gsc) rn rw' rs g0 g1 g2) := og
  clear og rg
  obtain ⟨⟨v0, v1, v2⟩, -⟩ := cb_4.out
  have hb_w10 : Below w9.heap.size w9 (w9.alloc (.cells #[.slice gna rn.length gnc, .slice gwa rw'.length gwc, .slice gsa rs.length gsc] 47)) := (Below.refl _ _).alloc (Nat.le_refl _) _
  have G_w10 := C3.new w9 (.slice gna rn.length gnc) (.slice gwa rw'.length gwc) (.slice gsa rs.length gsc) 47
  have zz_w10 : (w9.alloc (.cells #[.slice gna rn.length gnc, .slice gwa rw'.length gwc, .slice gsa rs.length gsc] 47)).heap.size = w9.heap.size + 1 := by simp
  generalize hw_w10 : w9.alloc (.cells #[.slice gna rn.length gnc, .slice gwa rw'.length gwc, .slice gsa rs.length gsc] 47) = w10 at hb_w10 G_w10 zz_w10
  have HW_w10 : Hid _ := hw_w10
  have HZ_w10 : Hid (w10.heap.size = w9.heap.size + 1) := zz_w10
  clear hw_w10 zz_w10
  have z_w10 : w9.heap.size ≤ w10.heap.size := hb_w10.size
  have box_10 : Hid (C2 w10 w.heap.size (.slice la ls.length lc) (.slice sa (ln d T) sc)) := C2.below box_9.out hb_w10
  clear box_9
  have c_6 : Hid (ROwn w10 (.slice cna rn.length cnc) (.slice cwa rw'.length cwc) (.slice csa rs.length csc) rn rw' rs c0 c1 c2) := ROwn.frame c_5.out (fun b hb' => hb_w10.block b (by have := Rc.out b hb'; omega))
  clear c_5
  have cb_5 : Hid (C3 w10 w4.heap.size (.slice cna rn.length cnc) (.slice cwa rw'.length cwc) (.slice csa rs.length csc)) := C3.below cb_4.out hb_w10
  clear cb_4
  have xl2_4 : Hid (LOwn w10 (.slice la2 ls.length lc2) ls p2) := LOwn.frame (fun b hb' => hb_w10.block b (by have := RL2.out b hb'; omega)) xl2_3.out
  clear xl2_3
  have xt2_4 : Hid (Own w10 d (.slice sa2 (ln d T) sc2) T q2) := Own.frame (fun b hb' => hb_w10.block b (by have := RT2.out b hb'; omega)) xt2_3.out
  clear xt2_3
  have xb_3 : Hid (C2 w10 w6.heap.size (.slice la2 ls.length lc2) (.slice sa2 (ln d T) sc2)) := C2.below xb_2.out hb_w10
  clear xb_2
  have xi2_2 : Hid (GOwn (Value.int .i64) w10 (.slice (some ad2) zs.length nc2) zs i2) := GOwn.frame (fun b hb' => hb_w10.block b (by have := RI2.out b hb'; omega)) xi2_1.out
  clear xi2_1
  have g_1 : Hid (ROwn w10 (.slice gna rn.length gnc) (.slice gwa rw'.length gwc) (.slice gsa rs.length gsc) rn rw' rs g0 g1 g2) := ROwn.frame g_0.out (fun b hb' => hb_w10.block b (by have := Rg.out b hb'; omega))
  clear g_0
  have B_w10 : Below w0.heap.size w0 w10 := Below.then B_w9 hb_w10 B_w9.size
  clear hb_w10 B_w9
  have gb_0 : Hid (C3 w10 w9.heap.size (.slice gna rn.length gnc) (.slice gwa rw'.length gwc) (.slice gsa rs.length gsc)) := G_w10
  clear G_w10
  go_wp2_with fail
  rw [HW_w10.out]
  clear HW_w10
  clear v0 v1 v2
  have CE_w11 : Hid _ := eqRun_same g_1.out.n.rep g_1.out.wr.rep g_1.out.sd.rep c_6.out.n.rep c_6.out.wr.rep c_6.out.sd.rep
  go_at_call 58; refine Calls.mono CE_w11.out ?_
  rintro e w11 ⟨rfl, hb_w11⟩
  clear CE_w11
  have z_w11 : w10.heap.size ≤ w11.heap.size := hb_w11.size
  have box_11 : Hid (C2 w11 w.heap.size (.slice la ls.length lc) (.slice sa (ln d T) sc)) := C2.below box_10.out hb_w11
  clear box_10
  have c_7 : Hid (ROwn w11 (.slice cna rn.length cnc) (.slice cwa rw'.length cwc) (.slice csa rs.length csc) rn rw' rs c0 c1 c2) := ROwn.frame c_6.out (fun b hb' => hb_w11.block b (by have := Rc.out b hb'; omega))
  clear c_6
  have cb_6 : Hid (C3 w11 w4.heap.size (.slice cna rn.length cnc) (.slice cwa rw'.length cwc) (.slice csa rs.length csc)) := C3.below cb_5.out hb_w11
  clear cb_5
  have xl2_5 : Hid (LOwn w11 (.slice la2 ls.length lc2) ls p2) := LOwn.frame (fun b hb' => hb_w11.block b (by have := RL2.out b hb'; omega)) xl2_4.out
  clear xl2_4
  have xt2_5 : Hid (Own w11 d (.slice sa2 (ln d T) sc2) T q2) := Own.frame (fun b hb' => hb_w11.block b (by have := RT2.out b hb'; omega)) xt2_4.out
  clear xt2_4
  have xb_4 : Hid (C2 w11 w6.heap.size (.slice la2 ls.length lc2) (.slice sa2 (ln d T) sc2)) := C2.below xb_3.out hb_w11
  clear xb_3
  have xi2_3 : Hid (GOwn (Value.int .i64) w11 (.slice (some ad2) zs.length nc2) zs i2) := GOwn.frame (fun b hb' => hb_w11.block b (by have := RI2.out b hb'; omega)) xi2_2.out
  clear xi2_2
  have g_2 : Hid (ROwn w11 (.slice gna rn.length gnc) (.slice gwa rw'.length gwc) (.slice gsa rs.length gsc) rn rw' rs g0 g1 g2) := ROwn.frame g_1.out (fun b hb' => hb_w11.block b (by have := Rg.out b hb'; omega))
  clear g_1
  have gb_1 : Hid (C3 w11 w9.heap.size (.slice gna rn.length gnc) (.slice gwa rw'.length gwc) (.slice gsa rs.length gsc)) := C3.below gb_0.out hb_w11
  clear gb_0
  have B_w11 : Below w0.heap.size w0 w11 := Below.then B_w10 hb_w11 B_w10.size
  clear hb_w11 B_w10
  obtain ⟨⟨x0, x1⟩, -⟩ := box_11.out
  obtain ⟨⟨y0, y1⟩, -⟩ := xb_4.out
  go_wp2_with fail
  refine wp_region_held (S := (fun wz => (wz.cell? ⟨w.heap.size, 0, none⟩ = some (.slice la ls.length lc) ∧ wz.cell? ⟨w.heap.size, 1, none⟩ = some (.slice sa (ln d T) sc)) ∧ (wz.cell? ⟨w6.heap.size, 0, none⟩ = some (.slice la2 ls.length lc2) ∧ wz.cell? ⟨w6.heap.size, 1, none⟩ = some (.slice sa2 (ln d T) sc2)) ∧ Below w11.heap.size w11 wz)) (by kernel_rfl) ?_
  change wpAnyH _ _ _ _ _ _ _ _ (World.drew _)
  have hHeld := SP1 ⟨⟨x0, x1⟩, ⟨y0, y1⟩, Below.refl w11.heap.size w11⟩
  refine' wpAnyH_take (i := 0) (v := .agg #[.slice la2 ls.length lc2, .slice sa2 (ln d T) sc2]) rfl (by kernel_rfl) (by kernel_rfl) (by kernel_rfl) (fun _ _ _ h => h) (Or.inl ⟨by rfl, ?hy1⟩) hHeld ?hn1
  case hy1 => (intro wz hSw; obtain ⟨_, ⟨k0, k1⟩, _⟩ := hSw; go_simp)
  try simp only [List.getElem_toArray, List.getElem_cons_zero, List.getElem_cons_succ, Act.put, List.setIfInBounds_toArray, List.set_cons_zero, List.set_cons_succ]
  refine' wpAnyH_take (i := 1) (v := .agg #[.slice la ls.length lc, .slice sa (ln d T) sc]) rfl (by kernel_rfl) (by kernel_rfl) (by kernel_rfl) (fun _ _ _ h => h) (Or.inl ⟨by rfl, ?hy2⟩) hHeld ?hn2
  case hy2 => (intro wz hSw; obtain ⟨⟨k0, k1⟩, _, _⟩ := hSw; go_simp)
  try simp only [List.getElem_toArray, List.getElem_cons_zero, List.getElem_cons_succ, Act.put, List.setIfInBounds_toArray, List.set_cons_zero, List.set_cons_succ]
  refine wpAnyH_ready (rs := [2]) (by kernel_rfl) (by simp) ?_
  refine AllReadyH.cons rfl (fun K hK => ?_) AllReadyH.nil
  go_simp
  refine (CT.out _ (Below.then B_w11 hHeld.2.2 B_w11.size)).mono ?_; rintro e' w12 ⟨lv9, sv9, _, _, rfl, hbx, ol9, ot9, -, -, -⟩; obtain ⟨la9, lc9, rfl, -⟩ := ol9.rep; obtain ⟨sa9, sc9, rfl⟩ := ot9.slice; have CE : Hid _ := eqProg_same (LRep.below (Below.then hHeld.2.2 hbx hHeld.2.2.size) xl2_5.out.rep) (Rep.below (Below.then hHeld.2.2 hbx hHeld.2.2.size) xt2_5.out.rep) ol9.rep ot9.rep
  refine hK.out _ _ (SP2 hHeld hbx) (fun hHeld => ?_)
  clear hK K
  refine wpAnyH_ready (rs := [3]) (by kernel_rfl) (by simp) ?_
  refine AllReadyH.cons rfl (fun K hK => ?_) AllReadyH.nil
  go_simp
  refine Calls.mono CE.out ?_; rintro e' w13 ⟨rfl, hbx⟩
  refine hK.out _ _ (SP2 hHeld hbx) (fun hHeld => ?_)
  clear hK K
  refine' wpAnyH_take (i := 4) (v := _) rfl (by kernel_rfl) (by kernel_rfl) (by kernel_rfl) (fun _ _ _ h => h) (Or.inl ⟨by rfl, ?hy3⟩) hHeld ?hn3
  case hy3 => (intro wz hSw; (try dsimp only at hSw); go_simp; first | done | with_reducible rfl)
  try simp only [List.getElem_toArray, List.getElem_cons_zero, List.getElem_cons_succ, Act.put, List.setIfInBounds_toArray, List.set_cons_zero, List.set_cons_succ]
  refine wpAnyH_done (by kernel_rfl) ?_ _
  clear x0 x1 y0 y1
  obtain ⟨-, -, hb_w13⟩ := hHeld
  clear CE
  have z_w13 : w11.heap.size ≤ w13.heap.size := hb_w13.size
  have box_12 : Hid (C2 w13 w.heap.size (.slice la ls.length lc) (.slice sa (ln d T) sc)) := C2.below box_11.out hb_w13
  clear box_11
  have c_8 : Hid (ROwn w13 (.slice cna rn.length cnc) (.slice cwa rw'.length cwc) (.slice csa rs.length csc) rn rw' rs c0 c1 c2) := ROwn.frame c_7.out (fun b hb' => hb_w13.block b (by have := Rc.out b hb'; omega))
  clear c_7
  have cb_7 : Hid (C3 w13 w4.heap.size (.slice cna rn.length cnc) (.slice cwa rw'.length cwc) (.slice csa rs.length csc)) := C3.below cb_6.out hb_w13
  clear cb_6
  have xl2_6 : Hid (LOwn w13 (.slice la2 ls.length lc2) ls p2) := LOwn.frame (fun b hb' => hb_w13.block b (by have := RL2.out b hb'; omega)) xl2_5.out
  clear xl2_5
  have xt2_6 : Hid (Own w13 d (.slice sa2 (ln d T) sc2) T q2) := Own.frame (fun b hb' => hb_w13.block b (by have := RT2.out b hb'; omega)) xt2_5.out
  clear xt2_5
  have xb_5 : Hid (C2 w13 w6.heap.size (.slice la2 ls.length lc2) (.slice sa2 (ln d T) sc2)) := C2.below xb_4.out hb_w13
  clear xb_4
  have xi2_4 : Hid (GOwn (Value.int .i64) w13 (.slice (some ad2) zs.length nc2) zs i2) := GOwn.frame (fun b hb' => hb_w13.block b (by have := RI2.out b hb'; omega)) xi2_3.out
  clear xi2_3
  have g_3 : Hid (ROwn w13 (.slice gna rn.length gnc) (.slice gwa rw'.length gwc) (.slice gsa rs.length gsc) rn rw' rs g0 g1 g2) := ROwn.frame g_2.out (fun b hb' => hb_w13.block b (by have := Rg.out b hb'; omega))
  clear g_2
  have gb_2 : Hid (C3 w13 w9.heap.size (.slice gna rn.length gnc) (.slice gwa rw'.length gwc) (.slice gsa rs.length gsc)) := C3.below gb_1.out hb_w13
  clear gb_1
  have B_w13 : Below w0.heap.size w0 w13 := Below.then B_w11 hb_w13 B_w11.size
  clear hb_w13 B_w11
  go_wp2_with fail
  go_at_call 57; refine (CN.out _ B_w13).mono ?_
  rintro e w14 ⟨iv3, i3, rfl, ⟨ad3, m3, nc3, rfl⟩, hb_w14, oi3, ri3⟩
  obtain ⟨_, _, hq3, -⟩ := oi3.rep
  obtain rfl : m3 = zs.length := by injection hq3
  clear hq3
  have z_w14 : w13.heap.size ≤ w14.heap.size := hb_w14.size
  have box_13 : Hid (C2 w14 w.heap.size (.slice la ls.length lc) (.slice sa (ln d T) sc)) := C2.below box_12.out hb_w14
  clear box_12
  have c_9 : Hid (ROwn w14 (.slice cna rn.length cnc) (.slice cwa rw'.length cwc) (.slice csa rs.length csc) rn rw' rs c0 c1 c2) := ROwn.frame c_8.out (fun b hb' => hb_w14.block b (by have := Rc.out b hb'; omega))
  clear c_8
  have cb_8 : Hid (C3 w14 w4.heap.size (.slice cna rn.length cnc) (.slice cwa rw'.length cwc) (.slice csa rs.length csc)) := C3.below cb_7.out hb_w14
  clear cb_7
  have xl2_7 : Hid (LOwn w14 (.slice la2 ls.length lc2) ls p2) := LOwn.frame (fun b hb' => hb_w14.block b (by have := RL2.out b hb'; omega)) xl2_6.out
  clear xl2_6
  have xt2_7 : Hid (Own w14 d (.slice sa2 (ln d T) sc2) T q2) := Own.frame (fun b hb' => hb_w14.block b (by have := RT2.out b hb'; omega)) xt2_6.out
  clear xt2_6
  have xb_6 : Hid (C2 w14 w6.heap.size (.slice la2 ls.length lc2) (.slice sa2 (ln d T) sc2)) := C2.below xb_5.out hb_w14
  clear xb_5
  have xi2_5 : Hid (GOwn (Value.int .i64) w14 (.slice (some ad2) zs.length nc2) zs i2) := GOwn.frame (fun b hb' => hb_w14.block b (by have := RI2.out b hb'; omega)) xi2_4.out
  clear xi2_4
  have g_4 : Hid (ROwn w14 (.slice gna rn.length gnc) (.slice gwa rw'.length gwc) (.slice gsa rs.length gsc) rn rw' rs g0 g1 g2) := ROwn.frame g_3.out (fun b hb' => hb_w14.block b (by have := Rg.out b hb'; omega))
  clear g_3
  have gb_3 : Hid (C3 w14 w9.heap.size (.slice gna rn.length gnc) (.slice gwa rw'.length gwc) (.slice gsa rs.length gsc)) := C3.below gb_2.out hb_w14
  clear gb_2
  have B_w14 : Below w0.heap.size w0 w14 := Below.then B_w13 hb_w14 B_w13.size
  clear hb_w14 B_w13
  have RI3 : Hid (∀ b ∈ i3, w13.heap.size ≤ b ∧ b < w14.heap.size) := ri3
  have xi3_0 : Hid (GOwn (Value.int .i64) w14 (.slice (some ad3) zs.length nc3) zs i3) := oi3
  clear oi3 ri3
  have CEi : Hid _ := eqIntS_same xi2_5.out.rep xi3_0.out.rep
  clear xi3_0
  go_wp2_with fail
  go_at_call 59; refine Calls.mono CEi.out ?_
  rintro e w15 ⟨rfl, hb_w15⟩
  clear CEi
  have z_w15 : w14.heap.size ≤ w15.heap.size := hb_w15.size
  have box_14 : Hid (C2 w15 w.heap.size (.slice la ls.length lc) (.slice sa (ln d T) sc)) := C2.below box_13.out hb_w15
  clear box_13
  have c_10 : Hid (ROwn w15 (.slice cna rn.length cnc) (.slice cwa rw'.length cwc) (.slice csa rs.length csc) rn rw' rs c0 c1 c2) := ROwn.frame c_9.out (fun b hb' => hb_w15.block b (by have := Rc.out b hb'; omega))
  clear c_9
  have cb_9 : Hid (C3 w15 w4.heap.size (.slice cna rn.length cnc) (.slice cwa rw'.length cwc) (.slice csa rs.length csc)) := C3.below cb_8.out hb_w15
  clear cb_8
  have xl2_8 : Hid (LOwn w15 (.slice la2 ls.length lc2) ls p2) := LOwn.frame (fun b hb' => hb_w15.block b (by have := RL2.out b hb'; omega)) xl2_7.out
  clear xl2_7
  have xt2_8 : Hid (Own w15 d (.slice sa2 (ln d T) sc2) T q2) := Own.frame (fun b hb' => hb_w15.block b (by have := RT2.out b hb'; omega)) xt2_7.out
  clear xt2_7
  have xb_7 : Hid (C2 w15 w6.heap.size (.slice la2 ls.length lc2) (.slice sa2 (ln d T) sc2)) := C2.below xb_6.out hb_w15
  clear xb_6
  have xi2_6 : Hid (GOwn (Value.int .i64) w15 (.slice (some ad2) zs.length nc2) zs i2) := GOwn.frame (fun b hb' => hb_w15.block b (by have := RI2.out b hb'; omega)) xi2_5.out
  clear xi2_5
  have g_5 : Hid (ROwn w15 (.slice gna rn.length gnc) (.slice gwa rw'.length gwc) (.slice gsa rs.length gsc) rn rw' rs g0 g1 g2) := ROwn.frame g_4.out (fun b hb' => hb_w15.block b (by have := Rg.out b hb'; omega))
  clear g_4
  have gb_4 : Hid (C3 w15 w9.heap.size (.slice gna rn.length gnc) (.slice gwa rw'.length gwc) (.slice gsa rs.length gsc)) := C3.below gb_3.out hb_w15
  clear gb_3
  have B_w15 : Below w0.heap.size w0 w15 := Below.then B_w14 hb_w15 B_w14.size
  clear hb_w15 B_w14
  have CM : Hid _ := markProg_any xl2_8.out xt2_8.out (fun b hb' => by rcases List.mem_append.1 hb' with hb' | hb'; (have := RL2.out b hb'; omega); (have := RT2.out b hb'; omega)) nd2 dj2 hlen hcn
  have RX2 : Hid (∀ b ∈ p2 ++ q2, w5.heap.size ≤ b ∧ b < w6.heap.size) := (show ∀ b ∈ p2 ++ q2, _ from fun b hb' => by rcases List.mem_append.1 hb' with hb' | hb'; exact RL2.out b hb'; exact RT2.out b hb')
  obtain ⟨⟨y0, y1⟩, -⟩ := xb_7.out
  go_wp2_with fail
  clear y0 y1
  go_at_call 54; refine Calls.mono CM.out ?_
  rintro e w16 ⟨rfl, fs16⟩
  clear xl2_8
  clear xt2_8
  clear xb_7
  have := HZ_w5.out
  have := HZ_w7.out
  have := HZ_w10.out
  have := HS0.out
  have z_w16 : w15.heap.size ≤ w16.heap.size := fs16.size
  have box_15 : Hid (C2 w16 w.heap.size (.slice la ls.length lc) (.slice sa (ln d T) sc)) := C2.frame box_14.out (fs16.block w.heap.size (C2.lt box_14.out) (fun hm => by have := RX2.out _ hm; omega))
  clear box_14
  have c_11 : Hid (ROwn w16 (.slice cna rn.length cnc) (.slice cwa rw'.length cwc) (.slice csa rs.length csc) rn rw' rs c0 c1 c2) := ROwn.frame c_10.out (fun b hb' => fs16.block b (by have := Rc.out b hb'; omega) (fun hm => by have := RX2.out b hm; have := Rc.out b hb'; omega))
  clear c_10
  have cb_10 : Hid (C3 w16 w4.heap.size (.slice cna rn.length cnc) (.slice cwa rw'.length cwc) (.slice csa rs.length csc)) := C3.frame cb_9.out (fs16.block w4.heap.size (C3.lt cb_9.out) (fun hm => by have := RX2.out _ hm; omega))
  clear cb_9
  have xi2_7 : Hid (GOwn (Value.int .i64) w16 (.slice (some ad2) zs.length nc2) zs i2) := GOwn.frame (fun b hb' => fs16.block b (by have := RI2.out b hb'; omega) (fun hm => by have := RX2.out b hm; have := RI2.out b hb'; omega)) xi2_6.out
  clear xi2_6
  have g_6 : Hid (ROwn w16 (.slice gna rn.length gnc) (.slice gwa rw'.length gwc) (.slice gsa rs.length gsc) rn rw' rs g0 g1 g2) := ROwn.frame g_5.out (fun b hb' => fs16.block b (by have := Rg.out b hb'; omega) (fun hm => by have := RX2.out b hm; have := Rg.out b hb'; omega))
  clear g_5
  have gb_5 : Hid (C3 w16 w9.heap.size (.slice gna rn.length gnc) (.slice gwa rw'.length gwc) (.slice gsa rs.length gsc)) := C3.frame gb_4.out (fs16.block w9.heap.size (C3.lt gb_4.out) (fun hm => by have := RX2.out _ hm; omega))
  clear gb_4
  have B_w16 : Below w0.heap.size w0 w16 := B_w15.trans (fs16.below (fun b hb' => by have := RX2.out b hb'; omega) B_w15.size)
  clear B_w15
  clear fs16 CM
  have k0 : 0 ≤ 1 + 2 * (ls.length : Int) + 6 * (cnt d T : Int) := by omega
  have k1 : 1 + 2 * (ls.length : Int) + 6 * (cnt d T : Int) ≤ 16777216 := by omega
  generalize 1 + 2 * (ls.length : Int) + 6 * (cnt d T : Int) = kk at k0 k1 ⊢
  have CB : Hid _ := markIntS_any (k := kk) xi2_7.out k0 (by omega)
  clear xi2_7
  go_wp2_with fail
  go_at_call 60; refine Calls.mono CB.out ?_
  rintro e w17 ⟨rfl, fr17, -⟩
  have fs17 : Fs i2 w16 w17 := Fs.of_fr fr17
  clear fr17 CB
  have z_w17 : w16.heap.size ≤ w17.heap.size := fs17.size
  have box_16 : Hid (C2 w17 w.heap.size (.slice la ls.length lc) (.slice sa (ln d T) sc)) := C2.frame box_15.out (fs17.block w.heap.size (C2.lt box_15.out) (fun hm => by have := RI2.out _ hm; omega))
  clear box_15
  have c_12 : Hid (ROwn w17 (.slice cna rn.length cnc) (.slice cwa rw'.length cwc) (.slice csa rs.length csc) rn rw' rs c0 c1 c2) := ROwn.frame c_11.out (fun b hb' => fs17.block b (by have := Rc.out b hb'; omega) (fun hm => by have := RI2.out b hm; have := Rc.out b hb'; omega))
  clear c_11
  have cb_11 : Hid (C3 w17 w4.heap.size (.slice cna rn.length cnc) (.slice cwa rw'.length cwc) (.slice csa rs.length csc)) := C3.frame cb_10.out (fs17.block w4.heap.size (C3.lt cb_10.out) (fun hm => by have := RI2.out _ hm; omega))
  clear cb_10
  have g_7 : Hid (ROwn w17 (.slice gna rn.length gnc) (.slice gwa rw'.length gwc) (.slice gsa rs.length gsc) rn rw' rs g0 g1 g2) := ROwn.frame g_6.out (fun b hb' => fs17.block b (by have := Rg.out b hb'; omega) (fun hm => by have := RI2.out b hm; have := Rg.out b hb'; omega))
  clear g_6
  have gb_6 : Hid (C3 w17 w9.heap.size (.slice gna rn.length gnc) (.slice gwa rw'.length gwc) (.slice gsa rs.length gsc)) := C3.frame gb_5.out (fs17.block w9.heap.size (C3.lt gb_5.out) (fun hm => by have := RI2.out _ hm; omega))
  clear gb_5
  have B_w17 : Below w0.heap.size w0 w17 := B_w16.trans (fs17.below (fun b hb' => by have := RI2.out b hb'; omega) B_w16.size)
  clear B_w16
  clear fs17
  have k2 : 0 ≤ kk + (zs.length : Int) := by omega
  have k3 : ¬ (kk + (zs.length : Int) < 0) := by omega
  generalize kk + (zs.length : Int) = k5 at k2 k3 ⊢
  obtain ⟨⟨u0, u1, u2⟩, -⟩ := gb_6.out
  obtain ⟨⟨v0, v1, v2⟩, -⟩ := cb_11.out
  have CE_w18 : Hid _ := eqRun_same g_7.out.n.rep g_7.out.wr.rep g_7.out.sd.rep c_12.out.n.rep c_12.out.wr.rep c_12.out.sd.rep
  go_wp2_with fail
  clear u0 u1 u2 v0 v1 v2
  go_at_call 58; refine Calls.mono CE_w18.out ?_
  rintro e w18 ⟨rfl, hb_w18⟩
  clear CE_w18
  have z_w18 : w17.heap.size ≤ w18.heap.size := hb_w18.size
  have box_17 : Hid (C2 w18 w.heap.size (.slice la ls.length lc) (.slice sa (ln d T) sc)) := C2.below box_16.out hb_w18
  clear box_16
  have c_13 : Hid (ROwn w18 (.slice cna rn.length cnc) (.slice cwa rw'.length cwc) (.slice csa rs.length csc) rn rw' rs c0 c1 c2) := ROwn.frame c_12.out (fun b hb' => hb_w18.block b (by have := Rc.out b hb'; omega))
  clear c_12
  have cb_12 : Hid (C3 w18 w4.heap.size (.slice cna rn.length cnc) (.slice cwa rw'.length cwc) (.slice csa rs.length csc)) := C3.below cb_11.out hb_w18
  clear cb_11
  have g_8 : Hid (ROwn w18 (.slice gna rn.length gnc) (.slice gwa rw'.length gwc) (.slice gsa rs.length gsc) rn rw' rs g0 g1 g2) := ROwn.frame g_7.out (fun b hb' => hb_w18.block b (by have := Rg.out b hb'; omega))
  clear g_7
  have gb_7 : Hid (C3 w18 w9.heap.size (.slice gna rn.length gnc) (.slice gwa rw'.length gwc) (.slice gsa rs.length gsc)) := C3.below gb_6.out hb_w18
  clear gb_6
  have B_w18 : Below w0.heap.size w0 w18 := Below.then B_w17 hb_w18 B_w17.size
  clear hb_w18 B_w17
  have CN' : Hid _ := markRun_any g_8.out (fun b hb' => by have := Rg.out b hb'; omega) apg (by omega) (by omega) (by omega)
  obtain ⟨⟨u0, u1, u2⟩, -⟩ := gb_7.out
  go_wp2_with fail
  clear u0 u1 u2
  go_at_call 61; refine Calls.mono CN'.out ?_
  rintro e w19 ⟨rfl, fs19, og⟩
  clear g_8
  have z_w19 : w18.heap.size ≤ w19.heap.size := fs19.size
  have box_18 : Hid (C2 w19 w.heap.size (.slice la ls.length lc) (.slice sa (ln d T) sc)) := C2.frame box_17.out (fs19.block w.heap.size (C2.lt box_17.out) (fun hm => by have := Rg.out _ hm; omega))
  clear box_17
  have c_14 : Hid (ROwn w19 (.slice cna rn.length cnc) (.slice cwa rw'.length cwc) (.slice csa rs.length csc) rn rw' rs c0 c1 c2) := ROwn.frame c_13.out (fun b hb' => fs19.block b (by have := Rc.out b hb'; omega) (fun hm => by have := Rg.out b hm; have := Rc.out b hb'; omega))
  clear c_13
  have cb_13 : Hid (C3 w19 w4.heap.size (.slice cna rn.length cnc) (.slice cwa rw'.length cwc) (.slice csa rs.length csc)) := C3.frame cb_12.out (fs19.block w4.heap.size (C3.lt cb_12.out) (fun hm => by have := Rg.out _ hm; omega))
  clear cb_12
  have gb_8 : Hid (C3 w19 w9.heap.size (.slice gna rn.length gnc) (.slice gwa rw'.length gwc) (.slice gsa rs.length gsc)) := C3.frame gb_7.out (fs19.block w9.heap.size (C3.lt gb_7.out) (fun hm => by have := Rg.out _ hm; omega))
  clear gb_7
  have B_w19 : Below w0.heap.size w0 w19 := B_w18.trans (fs19.below (fun b hb' => by have := Rg.out b hb'; omega) B_w18.size)
  clear B_w18
  have g_0 : Hid (ROwn w19 (.slice gna rn.length gnc) (.slice gwa rw'.length gwc) (.slice gsa rs.length gsc) (nf 1 rn.length) (pf (1 + rn.length) rw'.length) (pf (1 + rn.length + 2 * rw'.length) rs.length) g0 g1 g2) := og
  clear og fs19 CN'
  have m0 : 0 ≤ 1 + (rn.length : Int) + 2 * (rw'.length : Int) + 2 * (rs.length : Int) := by omega
  have m1 : ¬ (1 + (rn.length : Int) + 2 * (rw'.length : Int) + 2 * (rs.length : Int) < 0) := by omega
  obtain ⟨mm, hmm⟩ : ∃ m : Int, 1 + (rn.length : Int) + 2 * (rw'.length : Int) + 2 * (rs.length : Int) = m := ⟨_, rfl⟩
  rw [hmm] at m0 m1 ⊢
  have HMM : Hid _ := hmm
  clear hmm
  have CH_w20 : Hid _ := heldRun_any (n0 := rn.length) (n1 := rw'.length) (n2 := rs.length) g_0.out.n.rep g_0.out.wr.rep g_0.out.sd.rep (by omega) (by omega) (by omega)
  obtain ⟨⟨u0, u1, u2⟩, -⟩ := gb_8.out
  go_wp2_with fail
  clear u0 u1 u2
  go_at_call 62; refine Calls.mono CH_w20.out ?_
  rintro e w20 ⟨rfl, hb_w20⟩
  rw [HMM.out]
  clear CH_w20
  have z_w20 : w19.heap.size ≤ w20.heap.size := hb_w20.size
  have box_19 : Hid (C2 w20 w.heap.size (.slice la ls.length lc) (.slice sa (ln d T) sc)) := C2.below box_18.out hb_w20
  clear box_18
  have c_15 : Hid (ROwn w20 (.slice cna rn.length cnc) (.slice cwa rw'.length cwc) (.slice csa rs.length csc) rn rw' rs c0 c1 c2) := ROwn.frame c_14.out (fun b hb' => hb_w20.block b (by have := Rc.out b hb'; omega))
  clear c_14
  have cb_14 : Hid (C3 w20 w4.heap.size (.slice cna rn.length cnc) (.slice cwa rw'.length cwc) (.slice csa rs.length csc)) := C3.below cb_13.out hb_w20
  clear cb_13
  have gb_9 : Hid (C3 w20 w9.heap.size (.slice gna rn.length gnc) (.slice gwa rw'.length gwc) (.slice gsa rs.length gsc)) := C3.below gb_8.out hb_w20
  clear gb_8
  have g_1 : Hid (ROwn w20 (.slice gna rn.length gnc) (.slice gwa rw'.length gwc) (.slice gsa rs.length gsc) (nf 1 rn.length) (pf (1 + rn.length) rw'.length) (pf (1 + rn.length + 2 * rw'.length) rs.length) g0 g1 g2) := ROwn.frame g_0.out (fun b hb' => hb_w20.block b (by have := Rg.out b hb'; omega))
  clear g_0
  have B_w20 : Below w0.heap.size w0 w20 := Below.then B_w19 hb_w20 B_w19.size
  clear hb_w20 B_w19
  obtain ⟨⟨x0, x1⟩, -⟩ := box_19.out
  go_wp2_with fail
  clear x0 x1
  go_at_call 51; refine (CT.out _ B_w20).mono ?_
  rintro e w21 ⟨lv4, sv4, p4, q4, rfl, hb_w21, ol4, ot4, rp4, nd4, dj4⟩
  obtain ⟨la4, lc4, rfl, -⟩ := ol4.rep
  obtain ⟨sa4, sc4, rfl⟩ := ot4.slice
  have z_w21 : w20.heap.size ≤ w21.heap.size := hb_w21.size
  have box_20 : Hid (C2 w21 w.heap.size (.slice la ls.length lc) (.slice sa (ln d T) sc)) := C2.below box_19.out hb_w21
  clear box_19
  have c_16 : Hid (ROwn w21 (.slice cna rn.length cnc) (.slice cwa rw'.length cwc) (.slice csa rs.length csc) rn rw' rs c0 c1 c2) := ROwn.frame c_15.out (fun b hb' => hb_w21.block b (by have := Rc.out b hb'; omega))
  clear c_15
  have cb_15 : Hid (C3 w21 w4.heap.size (.slice cna rn.length cnc) (.slice cwa rw'.length cwc) (.slice csa rs.length csc)) := C3.below cb_14.out hb_w21
  clear cb_14
  have gb_10 : Hid (C3 w21 w9.heap.size (.slice gna rn.length gnc) (.slice gwa rw'.length gwc) (.slice gsa rs.length gsc)) := C3.below gb_9.out hb_w21
  clear gb_9
  have g_2 : Hid (ROwn w21 (.slice gna rn.length gnc) (.slice gwa rw'.length gwc) (.slice gsa rs.length gsc) (nf 1 rn.length) (pf (1 + rn.length) rw'.length) (pf (1 + rn.length + 2 * rw'.length) rs.length) g0 g1 g2) := ROwn.frame g_1.out (fun b hb' => hb_w21.block b (by have := Rg.out b hb'; omega))
  clear g_1
  have B_w21 : Below w0.heap.size w0 w21 := Below.then B_w20 hb_w21 B_w20.size
  clear hb_w21 B_w20
  have RL4 : Hid (∀ b ∈ p4, w20.heap.size ≤ b ∧ b < w21.heap.size) := (show ∀ b ∈ p4, _ from fun b hb => rp4 b (List.mem_append_left _ hb))
  have RT4 : Hid (∀ b ∈ q4, w20.heap.size ≤ b ∧ b < w21.heap.size) := (show ∀ b ∈ q4, _ from fun b hb => rp4 b (List.mem_append_right _ hb))
  have xl4_0 : Hid (LOwn w21 (.slice la4 ls.length lc4) ls p4) := ol4
  have xt4_0 : Hid (Own w21 d (.slice sa4 (ln d T) sc4) T q4) := ot4
  clear ol4 ot4 rp4
  go_wp2_with fail
  go_at_call 57; refine (CN.out _ B_w21).mono ?_
  rintro e w22 ⟨iv4, i4, rfl, ⟨ad4, m4, nc4, rfl⟩, hb_w22, oi4, ri4⟩
  obtain ⟨_, _, hq4, -⟩ := oi4.rep
  obtain rfl : m4 = zs.length := by injection hq4
  clear hq4
  have z_w22 : w21.heap.size ≤ w22.heap.size := hb_w22.size
  have box_21 : Hid (C2 w22 w.heap.size (.slice la ls.length lc) (.slice sa (ln d T) sc)) := C2.below box_20.out hb_w22
  clear box_20
  have c_17 : Hid (ROwn w22 (.slice cna rn.length cnc) (.slice cwa rw'.length cwc) (.slice csa rs.length csc) rn rw' rs c0 c1 c2) := ROwn.frame c_16.out (fun b hb' => hb_w22.block b (by have := Rc.out b hb'; omega))
  clear c_16
  have cb_16 : Hid (C3 w22 w4.heap.size (.slice cna rn.length cnc) (.slice cwa rw'.length cwc) (.slice csa rs.length csc)) := C3.below cb_15.out hb_w22
  clear cb_15
  have gb_11 : Hid (C3 w22 w9.heap.size (.slice gna rn.length gnc) (.slice gwa rw'.length gwc) (.slice gsa rs.length gsc)) := C3.below gb_10.out hb_w22
  clear gb_10
  have g_3 : Hid (ROwn w22 (.slice gna rn.length gnc) (.slice gwa rw'.length gwc) (.slice gsa rs.length gsc) (nf 1 rn.length) (pf (1 + rn.length) rw'.length) (pf (1 + rn.length + 2 * rw'.length) rs.length) g0 g1 g2) := ROwn.frame g_2.out (fun b hb' => hb_w22.block b (by have := Rg.out b hb'; omega))
  clear g_2
  have xl4_1 : Hid (LOwn w22 (.slice la4 ls.length lc4) ls p4) := LOwn.frame (fun b hb' => hb_w22.block b (by have := RL4.out b hb'; omega)) xl4_0.out
  clear xl4_0
  have xt4_1 : Hid (Own w22 d (.slice sa4 (ln d T) sc4) T q4) := Own.frame (fun b hb' => hb_w22.block b (by have := RT4.out b hb'; omega)) xt4_0.out
  clear xt4_0
  have B_w22 : Below w0.heap.size w0 w22 := Below.then B_w21 hb_w22 B_w21.size
  clear hb_w22 B_w21
  have RI4 : Hid (∀ b ∈ i4, w21.heap.size ≤ b ∧ b < w22.heap.size) := ri4
  have xi4_0 : Hid (GOwn (Value.int .i64) w22 (.slice (some ad4) zs.length nc4) zs i4) := oi4
  clear oi4 ri4
  have CC_w23 : Hid _ := CI.out _ _ _ _ _ xl4_1.out.rep xt4_1.out.rep xi4_0.out.rep
  clear xl4_1
  clear xt4_1
  clear xi4_0
  go_wp2_with fail
  go_at_call 31; refine Calls.mono CC_w23.out ?_
  rintro e w23 ⟨hhnv, hhwv, hhsv, hh0, hh1, hh2, rfl, hb_w23, ohh, rhh, aphh⟩
  obtain ⟨hhna, hhnc, rfl, -⟩ := ohh.n.rep
  obtain ⟨hhwa, hhwc, rfl, -⟩ := ohh.wr.rep
  obtain ⟨hhsa, hhsc, rfl, -⟩ := ohh.sd.rep
  clear CC_w23
  have z_w23 : w22.heap.size ≤ w23.heap.size := hb_w23.size
  have box_22 : Hid (C2 w23 w.heap.size (.slice la ls.length lc) (.slice sa (ln d T) sc)) := C2.below box_21.out hb_w23
  clear box_21
  have c_18 : Hid (ROwn w23 (.slice cna rn.length cnc) (.slice cwa rw'.length cwc) (.slice csa rs.length csc) rn rw' rs c0 c1 c2) := ROwn.frame c_17.out (fun b hb' => hb_w23.block b (by have := Rc.out b hb'; omega))
  clear c_17
  have cb_17 : Hid (C3 w23 w4.heap.size (.slice cna rn.length cnc) (.slice cwa rw'.length cwc) (.slice csa rs.length csc)) := C3.below cb_16.out hb_w23
  clear cb_16
  have gb_12 : Hid (C3 w23 w9.heap.size (.slice gna rn.length gnc) (.slice gwa rw'.length gwc) (.slice gsa rs.length gsc)) := C3.below gb_11.out hb_w23
  clear gb_11
  have g_4 : Hid (ROwn w23 (.slice gna rn.length gnc) (.slice gwa rw'.length gwc) (.slice gsa rs.length gsc) (nf 1 rn.length) (pf (1 + rn.length) rw'.length) (pf (1 + rn.length + 2 * rw'.length) rs.length) g0 g1 g2) := ROwn.frame g_3.out (fun b hb' => hb_w23.block b (by have := Rg.out b hb'; omega))
  clear g_3
  have B_w23 : Below w0.heap.size w0 w23 := Below.then B_w22 hb_w23 B_w22.size
  clear hb_w23 B_w22
  have Rhh : Hid (∀ k ∈ hh0 ++ hh1 ++ hh2, w22.heap.size ≤ k ∧ k < w23.heap.size) := rhh
  have hh_0 : Hid (ROwn w23 (.slice hhna rn.length hhnc) (.slice hhwa rw'.length hhwc) (.slice hhsa rs.length hhsc) rn rw' rs hh0 hh1 hh2) := ohh
  clear ohh rhh
  obtain ⟨⟨v0, v1, v2⟩, -⟩ := cb_17.out
  have hb_w24 : Below w23.heap.size w23 (w23.alloc (.cells #[.slice hhna rn.length hhnc, .slice hhwa rw'.length hhwc, .slice hhsa rs.length hhsc] 47)) := (Below.refl _ _).alloc (Nat.le_refl _) _
  have G_w24 := C3.new w23 (.slice hhna rn.length hhnc) (.slice hhwa rw'.length hhwc) (.slice hhsa rs.length hhsc) 47
  have zz_w24 : (w23.alloc (.cells #[.slice hhna rn.length hhnc, .slice hhwa rw'.length hhwc, .slice hhsa rs.length hhsc] 47)).heap.size = w23.heap.size + 1 := by simp
  generalize hw_w24 : w23.alloc (.cells #[.slice hhna rn.length hhnc, .slice hhwa rw'.length hhwc, .slice hhsa rs.length hhsc] 47) = w24 at hb_w24 G_w24 zz_w24
  have HW_w24 : Hid _ := hw_w24
  have HZ_w24 : Hid (w24.heap.size = w23.heap.size + 1) := zz_w24
  clear hw_w24 zz_w24
  have z_w24 : w23.heap.size ≤ w24.heap.size := hb_w24.size
  have box_23 : Hid (C2 w24 w.heap.size (.slice la ls.length lc) (.slice sa (ln d T) sc)) := C2.below box_22.out hb_w24
  clear box_22
  have c_19 : Hid (ROwn w24 (.slice cna rn.length cnc) (.slice cwa rw'.length cwc) (.slice csa rs.length csc) rn rw' rs c0 c1 c2) := ROwn.frame c_18.out (fun b hb' => hb_w24.block b (by have := Rc.out b hb'; omega))
  clear c_18
  have cb_18 : Hid (C3 w24 w4.heap.size (.slice cna rn.length cnc) (.slice cwa rw'.length cwc) (.slice csa rs.length csc)) := C3.below cb_17.out hb_w24
  clear cb_17
  have gb_13 : Hid (C3 w24 w9.heap.size (.slice gna rn.length gnc) (.slice gwa rw'.length gwc) (.slice gsa rs.length gsc)) := C3.below gb_12.out hb_w24
  clear gb_12
  have g_5 : Hid (ROwn w24 (.slice gna rn.length gnc) (.slice gwa rw'.length gwc) (.slice gsa rs.length gsc) (nf 1 rn.length) (pf (1 + rn.length) rw'.length) (pf (1 + rn.length + 2 * rw'.length) rs.length) g0 g1 g2) := ROwn.frame g_4.out (fun b hb' => hb_w24.block b (by have := Rg.out b hb'; omega))
  clear g_4
  have hh_1 : Hid (ROwn w24 (.slice hhna rn.length hhnc) (.slice hhwa rw'.length hhwc) (.slice hhsa rs.length hhsc) rn rw' rs hh0 hh1 hh2) := ROwn.frame hh_0.out (fun b hb' => hb_w24.block b (by have := Rhh.out b hb'; omega))
  clear hh_0
  have B_w24 : Below w0.heap.size w0 w24 := Below.then B_w23 hb_w24 B_w23.size
  clear hb_w24 B_w23
  have hhb_0 : Hid (C3 w24 w23.heap.size (.slice hhna rn.length hhnc) (.slice hhwa rw'.length hhwc) (.slice hhsa rs.length hhsc)) := G_w24
  clear G_w24
  go_wp2_with fail
  rw [HW_w24.out]
  clear HW_w24
  clear v0 v1 v2
  have CE_w25 : Hid _ := eqRun_same hh_1.out.n.rep hh_1.out.wr.rep hh_1.out.sd.rep c_19.out.n.rep c_19.out.wr.rep c_19.out.sd.rep
  go_at_call 58; refine Calls.mono CE_w25.out ?_
  rintro e w25 ⟨rfl, hb_w25⟩
  clear CE_w25
  have z_w25 : w24.heap.size ≤ w25.heap.size := hb_w25.size
  have box_24 : Hid (C2 w25 w.heap.size (.slice la ls.length lc) (.slice sa (ln d T) sc)) := C2.below box_23.out hb_w25
  clear box_23
  have c_20 : Hid (ROwn w25 (.slice cna rn.length cnc) (.slice cwa rw'.length cwc) (.slice csa rs.length csc) rn rw' rs c0 c1 c2) := ROwn.frame c_19.out (fun b hb' => hb_w25.block b (by have := Rc.out b hb'; omega))
  clear c_19
  have cb_19 : Hid (C3 w25 w4.heap.size (.slice cna rn.length cnc) (.slice cwa rw'.length cwc) (.slice csa rs.length csc)) := C3.below cb_18.out hb_w25
  clear cb_18
  have gb_14 : Hid (C3 w25 w9.heap.size (.slice gna rn.length gnc) (.slice gwa rw'.length gwc) (.slice gsa rs.length gsc)) := C3.below gb_13.out hb_w25
  clear gb_13
  have g_6 : Hid (ROwn w25 (.slice gna rn.length gnc) (.slice gwa rw'.length gwc) (.slice gsa rs.length gsc) (nf 1 rn.length) (pf (1 + rn.length) rw'.length) (pf (1 + rn.length + 2 * rw'.length) rs.length) g0 g1 g2) := ROwn.frame g_5.out (fun b hb' => hb_w25.block b (by have := Rg.out b hb'; omega))
  clear g_5
  have hh_2 : Hid (ROwn w25 (.slice hhna rn.length hhnc) (.slice hhwa rw'.length hhwc) (.slice hhsa rs.length hhsc) rn rw' rs hh0 hh1 hh2) := ROwn.frame hh_1.out (fun b hb' => hb_w25.block b (by have := Rhh.out b hb'; omega))
  clear hh_1
  have hhb_1 : Hid (C3 w25 w23.heap.size (.slice hhna rn.length hhnc) (.slice hhwa rw'.length hhwc) (.slice hhsa rs.length hhsc)) := C3.below hhb_0.out hb_w25
  clear hhb_0
  have B_w25 : Below w0.heap.size w0 w25 := Below.then B_w24 hb_w25 B_w24.size
  clear hb_w25 B_w24
  have CH_w26 : Hid _ := heldRun_any (n0 := rn.length) (n1 := rw'.length) (n2 := rs.length) g_6.out.n.rep g_6.out.wr.rep g_6.out.sd.rep (by omega) (by omega) (by omega)
  obtain ⟨⟨u0, u1, u2⟩, -⟩ := gb_14.out
  go_wp2_with fail
  clear u0 u1 u2
  go_at_call 62; refine Calls.mono CH_w26.out ?_
  rintro e w26 ⟨rfl, hb_w26⟩
  rw [HMM.out]
  clear CH_w26
  have z_w26 : w25.heap.size ≤ w26.heap.size := hb_w26.size
  have box_25 : Hid (C2 w26 w.heap.size (.slice la ls.length lc) (.slice sa (ln d T) sc)) := C2.below box_24.out hb_w26
  clear box_24
  have c_21 : Hid (ROwn w26 (.slice cna rn.length cnc) (.slice cwa rw'.length cwc) (.slice csa rs.length csc) rn rw' rs c0 c1 c2) := ROwn.frame c_20.out (fun b hb' => hb_w26.block b (by have := Rc.out b hb'; omega))
  clear c_20
  have cb_20 : Hid (C3 w26 w4.heap.size (.slice cna rn.length cnc) (.slice cwa rw'.length cwc) (.slice csa rs.length csc)) := C3.below cb_19.out hb_w26
  clear cb_19
  have gb_15 : Hid (C3 w26 w9.heap.size (.slice gna rn.length gnc) (.slice gwa rw'.length gwc) (.slice gsa rs.length gsc)) := C3.below gb_14.out hb_w26
  clear gb_14
  have g_7 : Hid (ROwn w26 (.slice gna rn.length gnc) (.slice gwa rw'.length gwc) (.slice gsa rs.length gsc) (nf 1 rn.length) (pf (1 + rn.length) rw'.length) (pf (1 + rn.length + 2 * rw'.length) rs.length) g0 g1 g2) := ROwn.frame g_6.out (fun b hb' => hb_w26.block b (by have := Rg.out b hb'; omega))
  clear g_6
  have hh_3 : Hid (ROwn w26 (.slice hhna rn.length hhnc) (.slice hhwa rw'.length hhwc) (.slice hhsa rs.length hhsc) rn rw' rs hh0 hh1 hh2) := ROwn.frame hh_2.out (fun b hb' => hb_w26.block b (by have := Rhh.out b hb'; omega))
  clear hh_2
  have hhb_2 : Hid (C3 w26 w23.heap.size (.slice hhna rn.length hhnc) (.slice hhwa rw'.length hhwc) (.slice hhsa rs.length hhsc)) := C3.below hhb_1.out hb_w26
  clear hhb_1
  have B_w26 : Below w0.heap.size w0 w26 := Below.then B_w25 hb_w26 B_w25.size
  clear hb_w26 B_w25
  go_wp2
  go_ret
  exact ⟨rfl, Below.then HA.out B_w26 HA.out.size⟩

end Go.Proofs.Ytpcmhkcahajdgaa
