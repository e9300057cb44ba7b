/- At every argument TypeWhy answers as the specification says; it writes into no argument: the law, walked. -/
import Derived.Test.YtkgblkbgebpejaaGreatDoorItw
import Derived.Test.YtkgblkbgebpejaaGreatDoorToC
import Derived.Test.YtkgblkbgebpejaaGreatDoorSqx
import Derived.Test.YtkgblkbgebpejaaGreatDoorFrs
import Derived.Test.YtkgblkbgebpejaaGreatDoorOpn
namespace Go.Proofs.YtkgblkbgebpejaaGreatDoor
open Go.RowKit
set_option linter.unusedSimpArgs false
set_option linter.unusedVariables false
attribute [local go_sem ↓] Go.wp_at_zero Go.wp_at_succ
attribute [local go_sem] World.cell?_alloc_some

theorem C2.frame {w w' : World} {b : Nat} {v0 v1 : Value} (h : C2 w b v0 v1) (hb : w'.heap[b]? = w.heap[b]?) : C2 w' b v0 v1 := by
  obtain ⟨⟨c0, c1⟩, f0, f1⟩ := h
  have hc : ∀ o, w'.cell? ⟨b, o, none⟩ = w.cell? ⟨b, o, none⟩ := fun o => World.cell?_of_block hb
  have hf : ∀ o, w'.frozen? ⟨b, o, none⟩ = w.frozen? ⟨b, o, none⟩ := fun o => World.frozen?_of_block (a := ⟨b, o, none⟩) hb
  exact ⟨⟨(hc 0).trans c0, (hc 1).trans c1⟩, (hf 0).trans f0, (hf 1).trans f1⟩
theorem C2.lt {w : World} {b : Nat} {v0 v1 : Value} (h : C2 w b v0 v1) : b < w.heap.size := World.block_lt_of_cell? w _ h.1.1
theorem C2.below {w w' : World} {b : Nat} {v0 v1 : Value} (h : C2 w b v0 v1) (hb : Below w.heap.size w w') : C2 w' b v0 v1 := h.frame (hb.block b h.lt)
theorem SP1 {w wz : World} {a1 a2 a3 a4 : Addr} {v1 v2 v3 v4 : Value} (h : (wz.cell? a1 = some v1 ∧ wz.cell? a2 = some v2) ∧ (wz.cell? a3 = some v3 ∧ wz.cell? a4 = some v4) ∧ Below w.heap.size w wz) : (wz.drew.cell? a1 = some v1 ∧ wz.drew.cell? a2 = some v2) ∧ (wz.drew.cell? a3 = some v3 ∧ wz.drew.cell? a4 = some v4) ∧ Below w.heap.size w wz.drew := ⟨h.1, h.2.1, h.2.2.drew⟩
theorem SP2 {w wz wx : World} {a1 a2 a3 a4 : Addr} {v1 v2 v3 v4 : Value} (h : (wz.cell? a1 = some v1 ∧ wz.cell? a2 = some v2) ∧ (wz.cell? a3 = some v3 ∧ wz.cell? a4 = some v4) ∧ Below w.heap.size w wz) (hb : Below wz.heap.size wz wx) : (wx.cell? a1 = some v1 ∧ wx.cell? a2 = some v2) ∧ (wx.cell? a3 = some v3 ∧ wx.cell? a4 = some v4) ∧ Below w.heap.size w wx :=
  ⟨⟨cell_later hb h.1.1, cell_later hb h.1.2⟩, ⟨cell_later hb h.2.1.1, cell_later hb h.2.1.2⟩, Below.then h.2.2 hb h.2.2.size⟩


set_option maxHeartbeats 8000000 in
set_option maxRecDepth 20000 in
theorem fnExactTypeWhy_walk {d : Nat} {T : Tr d} {lv sv : Value} {ls : List (Int × Int)} (w : World) (s0 s1 : Addr) (hg : Gd w s0 s1) (hL : LRep w lv ls) (hR : Rep w d sv T) :
    Calls Tryz.prog 5 #[.agg #[lv, sv]] w fun e w' => e = .returned (.bool true) ∧ Below w.heap.size w w' := by
  have HGD : Hid (Gd w s0 s1) := hg
  clear hg
  obtain ⟨la, lc, hv0, -⟩ := id hL
  obtain ⟨sa, sc, hv1⟩ := id hR.slice
  subst hv0 hv1
  have A : Below w.heap.size w (w.alloc (.cells #[.slice la ls.length lc, .slice sa (ln d T) sc] 42)) := (Below.refl _ _).alloc (Nat.le_refl _) _
  have G := C2.new w (.slice la ls.length lc) (.slice sa (ln d T) sc) 42
  generalize hW0 : w.alloc (.cells #[.slice la ls.length lc, .slice sa (ln d T) sc] 42) = w0 at A G
  have HW0 : Hid _ := hW0
  have hw0 : w0.heap.size = w.heap.size + 1 := by rw [← hW0]; simp
  have HS0 : Hid (w0.heap.size = w.heap.size + 1) := hw0
  have HL : Hid (∀ w', Below w0.heap.size w0 w' → LRep w' (.slice la ls.length lc) ls) := (show ∀ w', _ from fun w' hb => (hL.below A).below hb)
  have HR : Hid (∀ w', Below w0.heap.size w0 w' → Rep w' d (.slice sa (ln d T) sc) T) := (show ∀ w', _ from fun w' hb => (hR.below A).below hb)
  have C0 : Hid _ := szProg_any (left := 1048576) (hL.below A) (hR.below A) (by decide) (by decide)
  have HA : Hid (Below w.heap.size w w0) := A
  have B_w0 : Below w0.heap.size w0 w0 := Below.refl _ _
  clear hL hR hW0 A hw0
  have box_0 : Hid (C2 w0 w.heap.size (.slice la ls.length lc) (.slice sa (ln d T) sc)) := G
  clear G
  go_enter Tryz.func5, Tryz.ntmps5
  go_wp2_with fail
  rw [HW0.out]
  clear HW0
  go_at_call 16; refine Calls.mono C0.out ?_; rintro e w1 ⟨rfl, hb1⟩
  clear C0
  have z_w1 : w0.heap.size ≤ w1.heap.size := hb1.size
  have box_1 : Hid (C2 w1 w.heap.size (.slice la ls.length lc) (.slice sa (ln d T) sc)) := C2.below box_0.out hb1
  clear box_0
  have B_w1 : Below w0.heap.size w0 w1 := Below.then B_w0 hb1 B_w0.size
  clear hb1 B_w0
  by_cases hsz : ((ls.length + cnt d T : Nat) : Int) ≤ 1048576
  case neg =>
    rw [szR_neg hsz]
    go_wp2
    go_ret
    exact ⟨rfl, Below.then HA.out B_w1 HA.out.size⟩
  rw [szR_pos hsz]
  have h0 : ¬ (1048576 - ((ls.length + cnt d T : Nat) : Int) < 0) := by omega
  have h0' : 0 ≤ 1048576 - ((ls.length + cnt d T : Nat) : Int) := by omega
  have hlen : ls.length ≤ 1048576 := by omega
  have hcn : cnt d T ≤ 1048576 := by omega
  have CT : Hid (∀ wx, Below w0.heap.size w0 wx → Calls Tryz.prog 17 #[.agg #[.slice la ls.length lc, .slice sa (ln d T) sc]] wx fun e w' => ∃ lv' sv' b1 b2, e = .returned (.agg #[lv', sv']) ∧ Below wx.heap.size wx w' ∧ LOwn w' lv' ls b1 ∧ Own w' d sv' T b2 ∧ (∀ b ∈ b1 ++ b2, wx.heap.size ≤ b ∧ b < w'.heap.size) ∧ b2.Nodup ∧ (∀ b ∈ b1, b ∉ b2)) := (show ∀ wx, _ from fun wx hb => toProg_any (HL.out wx hb) (HR.out wx hb) hlen hcn)
  obtain ⟨⟨n, bd⟩, hwhy⟩ : ∃ x, whyR ls d T = x := ⟨_, rfl⟩
  have CS : Hid (∀ (lv sv : Value) (wx : World), LRep wx lv ls → Rep wx d sv T → Calls Tryz.prog 7 #[.agg #[lv, sv]] wx fun e w' => e = .returned (.tuple #[.int .i64 n, .bool bd]) ∧ Below wx.heap.size wx w') := (show ∀ (lv sv : Value) (wx : World), _ from fun _ _ _ a b => by
    have := sTypeWhy_any a b hcn
    rwa [hwhy] at this)
  have CI : Hid (∀ (lv sv : Value) (wx : World), Below w0.heap.size w0 wx → LRep wx lv ls → Rep wx d sv T → Calls Tryz.prog 8 #[.agg #[lv, sv]] wx fun e w' => e = .returned (.tuple #[.int .i64 n, .bool bd]) ∧ Below wx.heap.size wx w') := (show ∀ (lv sv : Value) (wx : World), _ from fun _ _ wx hb a b => by
    have := typeWhy_any a b (HGD.out.below (HA.out.trans (hb.mono HA.out.size)))
    rwa [hwhy] at this)
  clear hwhy
  generalize hkk : 1048576 - ((ls.length + cnt d T : Nat) : Int) = z at h0 h0' ⊢
  clear hkk
  obtain ⟨⟨x0, x1⟩, -⟩ := box_1.out
  go_wp2_with fail
  clear x0 x1
  go_at_call 17; refine (CT.out _ B_w1).mono ?_
  rintro e w2 ⟨lv1, sv1, p1, q1, rfl, hb_w2, ol1, ot1, rp1, nd1, dj1⟩
  obtain ⟨la1, lc1, rfl, -⟩ := ol1.rep
  obtain ⟨sa1, sc1, rfl⟩ := ot1.slice
  have z_w2 : w1.heap.size ≤ w2.heap.size := hb_w2.size
  have box_2 : Hid (C2 w2 w.heap.size (.slice la ls.length lc) (.slice sa (ln d T) sc)) := C2.below box_1.out hb_w2
  clear box_1
  have B_w2 : Below w0.heap.size w0 w2 := Below.then B_w1 hb_w2 B_w1.size
  clear hb_w2 B_w1
  have RL1 : Hid (∀ b ∈ p1, w1.heap.size ≤ b ∧ b < w2.heap.size) := (show ∀ b ∈ p1, _ from fun b hb => rp1 b (List.mem_append_left _ hb))
  have RT1 : Hid (∀ b ∈ q1, w1.heap.size ≤ b ∧ b < w2.heap.size) := (show ∀ b ∈ q1, _ from fun b hb => rp1 b (List.mem_append_right _ hb))
  have xl1_0 : Hid (LOwn w2 (.slice la1 ls.length lc1) ls p1) := ol1
  have xt1_0 : Hid (Own w2 d (.slice sa1 (ln d T) sc1) T q1) := ot1
  clear ol1 ot1 rp1
  have CC_w3 : Hid _ := CS.out _ _ _ xl1_0.out.rep xt1_0.out.rep
  clear xl1_0
  clear xt1_0
  go_wp2_with fail
  go_at_call 7; refine Calls.mono CC_w3.out ?_
  rintro e w3 ⟨rfl, hb_w3⟩
  clear CC_w3
  have z_w3 : w2.heap.size ≤ w3.heap.size := hb_w3.size
  have box_3 : Hid (C2 w3 w.heap.size (.slice la ls.length lc) (.slice sa (ln d T) sc)) := C2.below box_2.out hb_w3
  clear box_2
  have B_w3 : Below w0.heap.size w0 w3 := Below.then B_w2 hb_w3 B_w2.size
  clear hb_w3 B_w2
  obtain ⟨⟨x0, x1⟩, -⟩ := box_3.out
  go_wp2_with fail
  clear x0 x1
  go_at_call 17; refine (CT.out _ B_w3).mono ?_
  rintro e w4 ⟨lv2, sv2, p2, q2, rfl, hb_w4, ol2, ot2, rp2, nd2, dj2⟩
  obtain ⟨la2, lc2, rfl, -⟩ := ol2.rep
  obtain ⟨sa2, sc2, rfl⟩ := ot2.slice
  have z_w4 : w3.heap.size ≤ w4.heap.size := hb_w4.size
  have box_4 : Hid (C2 w4 w.heap.size (.slice la ls.length lc) (.slice sa (ln d T) sc)) := C2.below box_3.out hb_w4
  clear box_3
  have B_w4 : Below w0.heap.size w0 w4 := Below.then B_w3 hb_w4 B_w3.size
  clear hb_w4 B_w3
  have RL2 : Hid (∀ b ∈ p2, w3.heap.size ≤ b ∧ b < w4.heap.size) := (show ∀ b ∈ p2, _ from fun b hb => rp2 b (List.mem_append_left _ hb))
  have RT2 : Hid (∀ b ∈ q2, w3.heap.size ≤ b ∧ b < w4.heap.size) := (show ∀ b ∈ q2, _ from fun b hb => rp2 b (List.mem_append_right _ hb))
  have xl2_0 : Hid (LOwn w4 (.slice la2 ls.length lc2) ls p2) := ol2
  have xt2_0 : Hid (Own w4 d (.slice sa2 (ln d T) sc2) T q2) := ot2
  clear ol2 ot2 rp2
  have hb_w5 : Below w4.heap.size w4 (w4.alloc (.cells #[.slice la2 ls.length lc2, .slice sa2 (ln d T) sc2] 26)) := (Below.refl _ _).alloc (Nat.le_refl _) _
  have G_w5 := C2.new w4 (.slice la2 ls.length lc2) (.slice sa2 (ln d T) sc2) 26
  have zz_w5 : (w4.alloc (.cells #[.slice la2 ls.length lc2, .slice sa2 (ln d T) sc2] 26)).heap.size = w4.heap.size + 1 := by simp
  generalize hw_w5 : w4.alloc (.cells #[.slice la2 ls.length lc2, .slice sa2 (ln d T) sc2] 26) = w5 at hb_w5 G_w5 zz_w5
  have HW_w5 : Hid _ := hw_w5
  have HZ_w5 : Hid (w5.heap.size = w4.heap.size + 1) := zz_w5
  clear hw_w5 zz_w5
  have z_w5 : w4.heap.size ≤ w5.heap.size := hb_w5.size
  have box_5 : Hid (C2 w5 w.heap.size (.slice la ls.length lc) (.slice sa (ln d T) sc)) := C2.below box_4.out hb_w5
  clear box_4
  have xl2_1 : Hid (LOwn w5 (.slice la2 ls.length lc2) ls p2) := LOwn.frame (fun b hb' => hb_w5.block b (by have := RL2.out b hb'; omega)) xl2_0.out
  clear xl2_0
  have xt2_1 : Hid (Own w5 d (.slice sa2 (ln d T) sc2) T q2) := Own.frame (fun b hb' => hb_w5.block b (by have := RT2.out b hb'; omega)) xt2_0.out
  clear xt2_0
  have B_w5 : Below w0.heap.size w0 w5 := Below.then B_w4 hb_w5 B_w4.size
  clear hb_w5 B_w4
  have xb_0 : Hid (C2 w5 w4.heap.size (.slice la2 ls.length lc2) (.slice sa2 (ln d T) sc2)) := G_w5
  clear G_w5
  go_wp2_with fail
  rw [HW_w5.out]
  clear HW_w5
  obtain ⟨⟨y0, y1⟩, -⟩ := xb_0.out
  have CC_w6 : Hid _ := CI.out _ _ _ B_w5 xl2_1.out.rep xt2_1.out.rep
  clear y0 y1
  go_at_call 8; refine Calls.mono CC_w6.out ?_
  rintro e w6 ⟨rfl, hb_w6⟩
  clear CC_w6
  have z_w6 : w5.heap.size ≤ w6.heap.size := hb_w6.size
  have box_6 : Hid (C2 w6 w.heap.size (.slice la ls.length lc) (.slice sa (ln d T) sc)) := C2.below box_5.out hb_w6
  clear box_5
  have xl2_2 : Hid (LOwn w6 (.slice la2 ls.length lc2) ls p2) := LOwn.frame (fun b hb' => hb_w6.block b (by have := RL2.out b hb'; omega)) xl2_1.out
  clear xl2_1
  have xt2_2 : Hid (Own w6 d (.slice sa2 (ln d T) sc2) T q2) := Own.frame (fun b hb' => hb_w6.block b (by have := RT2.out b hb'; omega)) xt2_1.out
  clear xt2_1
  have xb_1 : Hid (C2 w6 w4.heap.size (.slice la2 ls.length lc2) (.slice sa2 (ln d T) sc2)) := C2.below xb_0.out hb_w6
  clear xb_0
  have B_w6 : Below w0.heap.size w0 w6 := Below.then B_w5 hb_w6 B_w5.size
  clear hb_w6 B_w5
  obtain ⟨⟨x0, x1⟩, -⟩ := box_6.out
  obtain ⟨⟨y0, y1⟩, -⟩ := xb_1.out
  go_wp2_with fail
  refine wp_region_held (S := (fun wz => (wz.cell? ⟨w.heap.size, 0, none⟩ = some (.slice la ls.length lc) ∧ wz.cell? ⟨w.heap.size, 1, none⟩ = some (.slice sa (ln d T) sc)) ∧ (wz.cell? ⟨w4.heap.size, 0, none⟩ = some (.slice la2 ls.length lc2) ∧ wz.cell? ⟨w4.heap.size, 1, none⟩ = some (.slice sa2 (ln d T) sc2)) ∧ Below w6.heap.size w6 wz)) (by kernel_rfl) ?_
  change wpAnyH _ _ _ _ _ _ _ _ (World.drew _)
  have hHeld := SP1 ⟨⟨x0, x1⟩, ⟨y0, y1⟩, Below.refl w6.heap.size w6⟩
  refine' wpAnyH_take (i := 0) (v := .agg #[.slice la2 ls.length lc2, .slice sa2 (ln d T) sc2]) rfl (by kernel_rfl) (by kernel_rfl) (by kernel_rfl) (fun _ _ _ h => h) (Or.inl ⟨by rfl, ?hy80001⟩) hHeld ?hn80001
  case hy80001 => (intro wz hSw; obtain ⟨_, ⟨k0, k1⟩, _⟩ := hSw; go_simp)
  try simp only [List.getElem_toArray, List.getElem_cons_zero, List.getElem_cons_succ, Act.put, List.setIfInBounds_toArray, List.set_cons_zero, List.set_cons_succ]
  refine' wpAnyH_take (i := 1) (v := .agg #[.slice la ls.length lc, .slice sa (ln d T) sc]) rfl (by kernel_rfl) (by kernel_rfl) (by kernel_rfl) (fun _ _ _ h => h) (Or.inl ⟨by rfl, ?hy80002⟩) hHeld ?hn80002
  case hy80002 => (intro wz hSw; obtain ⟨⟨k0, k1⟩, _, _⟩ := hSw; go_simp)
  try simp only [List.getElem_toArray, List.getElem_cons_zero, List.getElem_cons_succ, Act.put, List.setIfInBounds_toArray, List.set_cons_zero, List.set_cons_succ]
  refine wpAnyH_ready (rs := [2]) (by kernel_rfl) (by simp) ?_
  refine AllReadyH.cons rfl (fun K hK => ?_) AllReadyH.nil
  go_simp
  refine (CT.out _ (Below.then B_w6 hHeld.2.2 B_w6.size)).mono ?_; rintro e' w8 ⟨lv9, sv9, _, _, rfl, hbx, ol9, ot9, -, -, -⟩; obtain ⟨la9, lc9, rfl, -⟩ := ol9.rep; obtain ⟨sa9, sc9, rfl⟩ := ot9.slice; have CE : Hid _ := eqProg_same (LRep.below (Below.then hHeld.2.2 hbx hHeld.2.2.size) xl2_2.out.rep) (Rep.below (Below.then hHeld.2.2 hbx hHeld.2.2.size) xt2_2.out.rep) ol9.rep ot9.rep
  refine hK.out _ _ (SP2 hHeld hbx) (fun hHeld => ?_)
  clear hK K
  refine wpAnyH_ready (rs := [3]) (by kernel_rfl) (by simp) ?_
  refine AllReadyH.cons rfl (fun K hK => ?_) AllReadyH.nil
  go_simp
  refine Calls.mono CE.out ?_; rintro e' w9 ⟨rfl, hbx⟩
  refine hK.out _ _ (SP2 hHeld hbx) (fun hHeld => ?_)
  clear hK K
  refine' wpAnyH_take (i := 4) (v := _) rfl (by kernel_rfl) (by kernel_rfl) (by kernel_rfl) (fun _ _ _ h => h) (Or.inl ⟨by rfl, ?hy80003⟩) hHeld ?hn80003
  case hy80003 => (intro wz hSw; (try dsimp only at hSw); go_simp; first | done | with_reducible rfl)
  try simp only [List.getElem_toArray, List.getElem_cons_zero, List.getElem_cons_succ, Act.put, List.setIfInBounds_toArray, List.set_cons_zero, List.set_cons_succ]
  refine wpAnyH_done (by kernel_rfl) ?_ _
  clear x0 x1 y0 y1
  obtain ⟨-, -, hb_w9⟩ := hHeld
  clear CE
  have z_w9 : w6.heap.size ≤ w9.heap.size := hb_w9.size
  have box_7 : Hid (C2 w9 w.heap.size (.slice la ls.length lc) (.slice sa (ln d T) sc)) := C2.below box_6.out hb_w9
  clear box_6
  have xl2_3 : Hid (LOwn w9 (.slice la2 ls.length lc2) ls p2) := LOwn.frame (fun b hb' => hb_w9.block b (by have := RL2.out b hb'; omega)) xl2_2.out
  clear xl2_2
  have xt2_3 : Hid (Own w9 d (.slice sa2 (ln d T) sc2) T q2) := Own.frame (fun b hb' => hb_w9.block b (by have := RT2.out b hb'; omega)) xt2_2.out
  clear xt2_2
  have xb_2 : Hid (C2 w9 w4.heap.size (.slice la2 ls.length lc2) (.slice sa2 (ln d T) sc2)) := C2.below xb_1.out hb_w9
  clear xb_1
  have B_w9 : Below w0.heap.size w0 w9 := Below.then B_w6 hb_w9 B_w6.size
  clear hb_w9 B_w6
  go_wp2
  go_ret
  exact ⟨rfl, Below.then HA.out B_w9 HA.out.size⟩

end Go.Proofs.YtkgblkbgebpejaaGreatDoor
