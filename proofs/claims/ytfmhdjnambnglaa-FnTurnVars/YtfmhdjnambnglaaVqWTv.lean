/- A program whose variables are called otherwise that is turned, and turned back, is as it was: the law, walked. -/
import Derived.Test.YtfmhdjnambnglaaVqTpv
import Derived.Test.YtfmhdjnambnglaaVqTpw
import Derived.Test.YtfmhdjnambnglaaVqTlw
import Derived.Test.YtfmhdjnambnglaaVqTmy
import Derived.Deep.RegionHeld3
import Derived.Deep.DrawnRows
namespace Go.Proofs.Ytfmhdjnambnglaa
open Go.RowKit
set_option linter.unusedSimpArgs false
set_option linter.unusedVariables false
attribute [local go_sem ↓] Go.wp_at_zero Go.wp_at_succ
attribute [local go_sem] World.cell?_alloc_some

theorem C2.frame {w w' : World} {b : Nat} {v0 v1 : Value} (h : C2 w b v0 v1) (hb : w'.heap[b]? = w.heap[b]?) : C2 w' b v0 v1 := by
  obtain ⟨⟨c0, c1⟩, f0, f1⟩ := h
  have hc : ∀ o, w'.cell? ⟨b, o, none⟩ = w.cell? ⟨b, o, none⟩ := fun o => World.cell?_of_block hb
  have hf : ∀ o, w'.frozen? ⟨b, o, none⟩ = w.frozen? ⟨b, o, none⟩ := fun o => World.frozen?_of_block (a := ⟨b, o, none⟩) hb
  exact ⟨⟨(hc 0).trans c0, (hc 1).trans c1⟩, (hf 0).trans f0, (hf 1).trans f1⟩
theorem C2.lt {w : World} {b : Nat} {v0 v1 : Value} (h : C2 w b v0 v1) : b < w.heap.size := World.block_lt_of_cell? w _ h.1.1
theorem C2.below {w w' : World} {b : Nat} {v0 v1 : Value} (h : C2 w b v0 v1) (hb : Below w.heap.size w w') : C2 w' b v0 v1 := h.frame (hb.block b h.lt)
theorem far_two {W : World} {y b : Nat} (h : b ≠ y) (u v : Value) : ((W.setCell ⟨y, 0, none⟩ u).setCell ⟨y, 1, none⟩ v).heap[b]? = W.heap[b]? :=
  (Below.heap_setCell _ _ _ _ (by simpa using h)).trans (Below.heap_setCell _ _ _ _ (by simpa using h))

set_option maxHeartbeats 16000000 in
set_option maxRecDepth 20000 in
theorem fnTurnVars_walk (a0 : Option Addr) (len0 cap0 : Nat) (z0 : List Int) (w : World) (h0 : IsRow .u8 w a0 len0 cap0 z0) :
    Calls Try.prog 7 #[.slice a0 len0 cap0] w fun e w' => e = .returned (.bool true) ∧ Below w.heap.size w w' := by
  by_cases hl0 : (1048576 : Int) < (len0 : Int)
  · go_enter Try.func7, Try.ntmps7
    go_wp2
    go_ret
    exact ⟨rfl, Below.refl _ _⟩
  have C1 : Hid _ := drawTurnVars_any w a0 len0 cap0 z0 h0
  clear h0
  go_enter Try.func7, Try.ntmps7
  go_wp2_with fail
  go_at_call 35; refine Calls.mono C1.out ?_
  rintro e w1 ⟨la, sa, lc, sc, ls, d, l, zs, g, nc, rfl, hL, hR, hG, hb1, ll, cn, zl⟩
  have HB1 : Hid (Below w.heap.size w w1) := hb1
  have A2 : Below w1.heap.size w1 (w1.alloc (.cells #[.slice la ls.length lc, .slice sa (ln (d + 1) (l : List (Pay × Tr d × Tr d))) sc] 43)) := (Below.refl _ _).alloc (Nat.le_refl _) _
  have G2 := C2.new w1 (.slice la ls.length lc) (.slice sa (ln (d + 1) (l : List (Pay × Tr d × Tr d))) sc) 43
  obtain ⟨w2, hw2⟩ : ∃ W, w1.alloc (.cells #[.slice la ls.length lc, .slice sa (ln (d + 1) (l : List (Pay × Tr d × Tr d))) sc] 43) = W := ⟨_, rfl⟩
  rw [hw2] at A2 G2
  have HW2 : Hid _ := hw2
  have K2 : Hid _ := sTurnVars_any (hL.below A2) (hR.below A2) (by omega) (hG.below A2)
  have HRR : Hid (∀ wz, Below w1.heap.size w1 wz → LRep wz (.slice la ls.length lc) ls ∧ Rep wz (d + 1) (.slice sa (ln (d + 1) (l : List (Pay × Tr d × Tr d))) sc) (l : List (Pay × Tr d × Tr d)) ∧ GRep (Value.int .i64) wz (.slice (some ⟨g, 0, none⟩) zs.length nc) zs) := (show ∀ wz, _ from fun wz hb => ⟨hL.below hb, hR.below hb, hG.below hb⟩)
  have HG2 : Hid (C2 w2 w1.heap.size (.slice la ls.length lc) (.slice sa (ln (d + 1) (l : List (Pay × Tr d × Tr d))) sc)) := G2
  have HA2 : Hid (Below w1.heap.size w1 w2) := A2
  obtain ⟨okb, hok⟩ : ∃ x, tvOk zs ls (d + 1) (l : List (Pay × Tr d × Tr d)) = x := ⟨_, rfl⟩
  obtain ⟨LN, hLN⟩ : ∃ x, tvL zs ls (d + 1) (l : List (Pay × Tr d × Tr d)) = x := ⟨_, rfl⟩
  obtain ⟨TN, hTN⟩ : ∃ x, tvT zs ls (d + 1) (l : List (Pay × Tr d × Tr d)) = x := ⟨_, rfl⟩
  rw [hok, hLN, hTN] at K2
  have HOK : Hid _ := hok
  have HLN : Hid _ := hLN
  have HTN : Hid _ := hTN
  obtain ⟨⟨p0, p1⟩, -⟩ := G2
  clear hok hLN hTN hw2 A2 hL hR hG hb1 C1
  go_wp2_with fail
  rw [HW2.out]
  clear HW2
  (try go_at_call 36); refine Calls.mono K2.out ?_
  rintro e w3 ⟨vwl, vws, c1, c2, rfl, hb3, olw, osw, -, -, -⟩
  obtain ⟨wla, wlc, rfl, -⟩ := id olw.rep
  obtain ⟨wsa, wsc, rfl⟩ := osw.slice
  have HWW : Hid (∀ wz, Below w3.heap.size w3 wz → LRep wz (.slice wla LN.length wlc) LN ∧ Rep wz (d + 1) (.slice wsa (ln (d + 1) TN) wsc) TN) := (show ∀ wz, _ from fun wz hb => ⟨olw.rep.below hb, osw.rep.below hb⟩)
  have HG3 : Hid (C2 w3 w1.heap.size (.slice la ls.length lc) (.slice sa (ln (d + 1) (l : List (Pay × Tr d × Tr d))) sc)) := C2.same HG2.out (hb3.block _ (World.block_lt_of_cell? _ _ HG2.out.1.1))
  have HB13 : Hid (Below w1.heap.size w1 w3) := Below.then HA2.out hb3 HA2.out.size
  have A4 : Below w3.heap.size w3 (w3.alloc (.cells #[.slice wla LN.length wlc, .slice wsa (ln (d + 1) TN) wsc] 43)) := (Below.refl _ _).alloc (Nat.le_refl _) _
  have G4 := C2.new w3 (.slice wla LN.length wlc) (.slice wsa (ln (d + 1) TN) wsc) 43
  obtain ⟨w4, hw4⟩ : ∃ W, w3.alloc (.cells #[.slice wla LN.length wlc, .slice wsa (ln (d + 1) TN) wsc] 43) = W := ⟨_, rfl⟩
  rw [hw4] at A4 G4
  have HW4 : Hid _ := hw4
  have HA4 : Hid (Below w3.heap.size w3 w4) := A4
  have HB14 : Hid (Below w1.heap.size w1 w4) := Below.then HB13.out A4 HB13.out.size
  have K4 : Hid _ := turnVars_any (HRR.out _ HB14.out).1 (HRR.out _ HB14.out).2.1 (HRR.out _ HB14.out).2.2
  rw [HOK.out, HLN.out, HTN.out] at K4
  have HG4 : Hid (C2 w4 w3.heap.size (.slice wla LN.length wlc) (.slice wsa (ln (d + 1) TN) wsc)) := G4
  replace p0 := cell_later hb3 p0
  replace p1 := cell_later hb3 p1
  clear hw4 A4 G4 hb3 olw osw K2 HG2 HA2
  go_wp2_with fail
  rw [HW4.out]
  clear HW4 p0 p1
  (try go_at_call 37); refine Calls.mono K4.out ?_
  rintro e w5 ⟨vql, vqs, c3, c4, rfl, hb5, olq, osq, -, -, -⟩
  obtain ⟨qla, qlc, rfl, -⟩ := id olq.rep
  obtain ⟨qsa, qsc, rfl⟩ := osq.slice
  have A6 : Below w5.heap.size w5 (w5.alloc (.cells #[.slice qla LN.length qlc, .slice qsa (ln (d + 1) TN) qsc] 43)) := (Below.refl _ _).alloc (Nat.le_refl _) _
  have G6 := C2.new w5 (.slice qla LN.length qlc) (.slice qsa (ln (d + 1) TN) qsc) 43
  obtain ⟨w6, hw6⟩ : ∃ W, w5.alloc (.cells #[.slice qla LN.length qlc, .slice qsa (ln (d + 1) TN) qsc] 43) = W := ⟨_, rfl⟩
  rw [hw6] at A6 G6
  have HW6 : Hid _ := hw6
  have HB16 : Hid (Below w1.heap.size w1 w6) := Below.then (Below.then HB14.out hb5 HB14.out.size) A6 (Below.then HB14.out hb5 HB14.out.size).size
  have HB36 : Hid (Below w3.heap.size w3 w6) := Below.then (Below.then HA4.out hb5 HA4.out.size) A6 (Below.then HA4.out hb5 HA4.out.size).size
  have HB46 : Hid (Below w4.heap.size w4 w6) := Below.then hb5 A6 hb5.size
  have HGP : Hid (∀ wz, Below w6.heap.size w6 wz → (wz.cell? ⟨w1.heap.size, 0, none⟩ = some (.slice la ls.length lc) ∧ wz.cell? ⟨w1.heap.size, 1, none⟩ = some (.slice sa (ln (d + 1) (l : List (Pay × Tr d × Tr d))) sc)) ∧ (wz.cell? ⟨w3.heap.size, 0, none⟩ = some (.slice wla LN.length wlc) ∧ wz.cell? ⟨w3.heap.size, 1, none⟩ = some (.slice wsa (ln (d + 1) TN) wsc)) ∧ (wz.cell? ⟨w5.heap.size, 0, none⟩ = some (.slice qla LN.length qlc) ∧ wz.cell? ⟨w5.heap.size, 1, none⟩ = some (.slice qsa (ln (d + 1) TN) qsc))) := (show ∀ wz, _ from fun wz hb => ⟨⟨cell_later hb (cell_later HB36.out HG3.out.1.1), cell_later hb (cell_later HB36.out HG3.out.1.2)⟩, ⟨cell_later hb (cell_later HB46.out HG4.out.1.1), cell_later hb (cell_later HB46.out HG4.out.1.2)⟩, cell_later hb G6.1.1, cell_later hb G6.1.2⟩)
  have HAL : Hid (∀ wz, Below w6.heap.size w6 wz → (LRep wz (.slice la ls.length lc) ls ∧ Rep wz (d + 1) (.slice sa (ln (d + 1) (l : List (Pay × Tr d × Tr d))) sc) (l : List (Pay × Tr d × Tr d)) ∧ GRep (Value.int .i64) wz (.slice (some ⟨g, 0, none⟩) zs.length nc) zs) ∧ (LRep wz (.slice wla LN.length wlc) LN ∧ Rep wz (d + 1) (.slice wsa (ln (d + 1) TN) wsc) TN) ∧ (LRep wz (.slice qla LN.length qlc) LN ∧ Rep wz (d + 1) (.slice qsa (ln (d + 1) TN) qsc) TN)) := (show ∀ wz, _ from fun wz hb => ⟨HRR.out wz (Below.then HB16.out hb HB16.out.size), HWW.out wz (Below.then HB36.out hb HB36.out.size), (olq.rep.below A6).below hb, (osq.rep.below A6).below hb⟩)
  have HG5 : Hid ((w5.cell? ⟨w1.heap.size, 0, none⟩ = some (.slice la ls.length lc) ∧ w5.cell? ⟨w1.heap.size, 1, none⟩ = some (.slice sa (ln (d + 1) (l : List (Pay × Tr d × Tr d))) sc)) ∧ w5.cell? ⟨w3.heap.size, 0, none⟩ = some (.slice wla LN.length wlc) ∧ w5.cell? ⟨w3.heap.size, 1, none⟩ = some (.slice wsa (ln (d + 1) TN) wsc)) := ⟨⟨cell_later hb5 (cell_later HA4.out HG3.out.1.1), cell_later hb5 (cell_later HA4.out HG3.out.1.2)⟩, cell_later hb5 HG4.out.1.1, cell_later hb5 HG4.out.1.2⟩
  have HB6 : Hid (Below w.heap.size w w6) := Below.then HB1.out HB16.out HB1.out.size
  have KC : Hid (∀ wz, Below w6.heap.size w6 wz → Calls Try.prog 28 #[.agg #[.slice qla LN.length qlc, .slice qsa (ln (d + 1) TN) qsc], .agg #[.slice wla LN.length wlc, .slice wsa (ln (d + 1) TN) wsc]] wz fun e w' => e = .returned (.bool true) ∧ Below wz.heap.size wz w') := (show ∀ wz, _ from fun wz hb => lcProg_same (HAL.out wz hb).2.2.1 (HAL.out wz hb).2.2.2 (HAL.out wz hb).2.1.1 (HAL.out wz hb).2.1.2)
  have B66 : Hid (Below w6.heap.size w6 w6) := Below.refl _ _
  clear hw6 A6 G6 hb5 olq osq K4 HG3 HG4 HA4 HB13 HB14 HB16 HB36 HB46 HRR HWW HB1
  obtain ⟨⟨p0, p1⟩, c0, c1⟩ := HG5.out
  go_wp2_with fail
  rw [HW6.out]
  clear HW6 HG5
  (try go_at_call 28); refine Calls.mono (KC.out _ B66.out) ?_
  rintro e w7 ⟨rfl, hb_w7⟩
  have B_w7 : Hid (Below w6.heap.size w6 w7) := Below.then B66.out hb_w7 B66.out.size
  clear hb_w7
  clear p0 p1 c0 c1
  cases okb
  · obtain ⟨⟨p0, p1⟩, ⟨c0, c1⟩, q0, q1⟩ := HGP.out w7 B_w7.out
    go_wp2_with fail
    (try go_at_call 28); refine Calls.mono (KC.out _ B_w7.out) ?_
    rintro e w8 ⟨rfl, hb_w8⟩
    have B_w8 : Hid (Below w6.heap.size w6 w8) := Below.then B_w7.out hb_w8 B_w7.out.size
    clear hb_w8
    clear p0 p1 c0 c1 q0 q1
    go_wp2
    go_ret
    exact ⟨by simp, Below.then HB6.out B_w8.out HB6.out.size⟩
  obtain ⟨t1, t2, tl, t3, t4, t5, t6, t7⟩ := vars_back HOK.out
  have zl3 : zs.length = ls.length := rowB_len t2
  have t2' : rowB zs zs.length = true := by rw [zl3]; exact t2
  rw [HLN.out, HTN.out] at t3 t5 t6 t7
  rw [HTN.out] at t4
  have HQ : Hid _ := t3
  have HC : Hid _ := t4
  have HP : Hid _ := t1
  have HX : Hid (∀ wx bv, Below w6.heap.size w6 wx → GRep (Value.int .i64) wx bv (backL zs) → Calls Try.prog 37 #[.agg #[.slice qla LN.length qlc, .slice qsa (ln (d + 1) TN) qsc], bv] wx (TpPost wx true ls (d + 1) (l : List (Pay × Tr d × Tr d)))) := (show ∀ wx bv, _ from fun wx bv hb hg => by
    have := turnVars_any (HAL.out wx hb).2.2.1 (HAL.out wx hb).2.2.2 hg
    rwa [t5, t6, t7] at this)
  have KB : Hid (∀ wx, Below w6.heap.size w6 wx → Calls Try.prog 18 #[.slice (some ⟨g, 0, none⟩) zs.length nc] wx fun e w' => ∃ g' c', e = .returned (.slice (some ⟨g', 0, none⟩) zs.length c') ∧ Below wx.heap.size wx w' ∧ wx.heap.size ≤ g' ∧ GRep (Value.int .i64) w' (.slice (some ⟨g', 0, none⟩) zs.length c') (backL zs)) := (show ∀ wx, _ from fun wx hb => lcBack_any t2' (by omega) (by omega) (HAL.out wx hb).1.2.2)
  clear t1 t2 t2' t3 t4 t5 t6 t7 zl3 tl
  obtain ⟨⟨p0, p1⟩, ⟨c0, c1⟩, q0, q1⟩ := HGP.out w7 B_w7.out
  clear c0 c1
  go_wp2_with fail
  refine wp_region_held (S := (fun wz => Below w7.heap.size w7 wz)) (by kernel_rfl) ?_
  change wpAnyH _ _ _ _ _ _ _ _ (World.drew _)
  have hHeld := (Below.refl w7.heap.size w7).drew
  refine' wpAnyH_take (i := 0) (v := .agg #[.slice qla LN.length qlc, .slice qsa (ln (d + 1) TN) qsc]) rfl (by kernel_rfl) (by kernel_rfl) (by kernel_rfl) (fun _ _ _ h => h) (Or.inl ⟨by rfl, ?hy30001⟩) hHeld ?hn30001
  case hy30001 => (intro wz hSw; have j0 := cell_later hSw q0; have j1 := cell_later hSw q1; go_simp)
  try simp only [List.getElem_toArray, List.getElem_cons_zero, List.getElem_cons_succ, Act.put, List.setIfInBounds_toArray, List.set_cons_zero, List.set_cons_succ]
  refine' wpAnyH_take (i := 1) (v := _) rfl (by kernel_rfl) (by kernel_rfl) (by kernel_rfl) (fun _ _ _ h => h) (Or.inl ⟨by rfl, ?hy30002⟩) hHeld ?hn30002
  case hy30002 => (intro wz hSw; go_simp; first | done | with_reducible rfl)
  try simp only [List.getElem_toArray, List.getElem_cons_zero, List.getElem_cons_succ, Act.put, List.setIfInBounds_toArray, List.set_cons_zero, List.set_cons_succ]
  refine wpAnyH_ready (rs := [2, 7]) (by kernel_rfl) (by simp) ?_
  refine AllReadyH.cons rfl (fun K hK => ?_) (AllReadyH.cons rfl (fun K hK => ?_) AllReadyH.nil)
  · go_simp
    refine Calls.mono (KB.out _ (Below.then B_w7.out hHeld B_w7.out.size)) ?_
    rintro e' wB ⟨g2, c2', rfl, hbx, -, hgb⟩
    refine hK.out _ _ (Below.then hHeld hbx hHeld.size) (fun hHeld => ?_)
    clear hK K
    refine wpAnyH_ready (rs := [3, 7]) (by kernel_rfl) (by simp) ?_
    refine AllReadyH.cons rfl (fun K hK => ?_) (AllReadyH.cons rfl (fun K hK => ?_) AllReadyH.nil)
    · go_simp
      refine Calls.mono (HX.out _ _ (Below.then B_w7.out hHeld B_w7.out.size) hgb) ?_
      rintro e' wR ⟨vxl, vxs, b5, b6, rfl, hbR, olx, osx, hrg, -, -⟩
      obtain ⟨xa, xc, rfl, -⟩ := id olx.rep
      obtain ⟨xsa, xsc, rfl⟩ := osx.slice
      clear hgb
      refine hK.out _ _ (Below.then hHeld hbR hHeld.size) (fun hHeld => ?_)
      clear hK K
      refine' wpAnyH_take (i := 4) (v := _) rfl (by kernel_rfl) (by kernel_rfl) (by kernel_rfl) (fun _ _ _ h => h) (Or.inl ⟨by rfl, ?hy30003⟩) hHeld ?hn30003
      case hy30003 => (intro wz hSw; go_simp; first | done | with_reducible rfl)
      try simp only [List.getElem_toArray, List.getElem_cons_zero, List.getElem_cons_succ, Act.put, List.setIfInBounds_toArray, List.set_cons_zero, List.set_cons_succ]
      refine' wpAnyH_take (i := 5) (v := _) rfl (by kernel_rfl) (by kernel_rfl) (by kernel_rfl) (fun _ _ _ h => h) (Or.inl ⟨by rfl, ?hy30004⟩) hHeld ?hn30004
      case hy30004 => (intro wz hSw; go_simp; first | done | with_reducible rfl)
      try simp only [List.getElem_toArray, List.getElem_cons_zero, List.getElem_cons_succ, Act.put, List.setIfInBounds_toArray, List.set_cons_zero, List.set_cons_succ]
      refine' wpAnyH_take (i := 6) (v := _) rfl (by kernel_rfl) (by kernel_rfl) (by kernel_rfl) (fun _ _ _ h => h) (Or.inl ⟨by rfl, ?hy30005⟩) hHeld ?hn30005
      case hy30005 => (intro wz hSw; go_simp; first | done | with_reducible rfl)
      try simp only [List.getElem_toArray, List.getElem_cons_zero, List.getElem_cons_succ, Act.put, List.setIfInBounds_toArray, List.set_cons_zero, List.set_cons_succ]
      refine wpAnyH_ready (rs := [7]) (by kernel_rfl) (by simp) ?_
      refine AllReadyH.cons rfl (fun K hK => ?_) AllReadyH.nil
      go_simp
      have CY := C2.new wR (.slice none 0 0) (.slice none 0 0) 43
      have AL : Below (wR).heap.size wR (World.alloc wR (.cells #[.slice none 0 0, .slice none 0 0] 43)) := (Below.refl _ _).alloc (Nat.le_refl _) _
      obtain ⟨yb, hyb⟩ : ∃ yb, yb = (wR).heap.size := ⟨_, rfl⟩
      have hyl : yb < ((World.alloc wR (.cells #[.slice none 0 0, .slice none 0 0] 43))).heap.size := by rw [hyb]; exact C2.lt CY
      have hy8 : w7.heap.size ≤ yb := by rw [hyb]; first | exact Nat.le_refl _ | exact hHeld.size
      rw [← hyb] at CY ⊢
      have hne : ∀ b ∈ b5 ++ b6, b ≠ yb := fun b hb => by have := (hrg b hb).2; omega
      replace olx := LOwn.frame (fun b hb' => AL.block b (by have := hrg b (List.mem_append_left _ hb'); omega)) olx
      replace osx := Own.frame (fun b hb' => AL.block b (by have := hrg b (List.mem_append_right _ hb'); omega)) osx
      clear hrg
      clear hyb
      generalize (World.alloc wR (.cells #[.slice none 0 0, .slice none 0 0] 43)) = wY at *
      refine hK.out _ _ (Below.then hHeld AL hHeld.size) (fun hHeld => ?_)
      clear hK K
      refine wpAnyH_ready (rs := [8]) (by kernel_rfl) (by simp) ?_
      refine AllReadyH.cons rfl (fun K hK => ?_) AllReadyH.nil
      obtain ⟨⟨c0, c1⟩, f0, f1⟩ := id CY
      have GY : C2 (((wY).setCell ⟨yb, 0, none⟩ (.slice xa ls.length xc)).setCell ⟨yb, 1, none⟩ (.slice xsa (ln (d + 1) (l : List (Pay × Tr d × Tr d))) xsc)) yb (.slice xa ls.length xc) (.slice xsa (ln (d + 1) (l : List (Pay × Tr d × Tr d))) xsc) := (CY.set0 _).set1 _
      have LX := (LOwn.frame (fun b hb' => far_two (hne b (List.mem_append_left _ hb')) (.slice xa ls.length xc) (.slice xsa (ln (d + 1) (l : List (Pay × Tr d × Tr d))) xsc)) olx).rep
      have SX := (Own.frame (fun b hb' => far_two (hne b (List.mem_append_right _ hb')) (.slice xa ls.length xc) (.slice xsa (ln (d + 1) (l : List (Pay × Tr d × Tr d))) xsc)) osx).rep
      have BY : Below w7.heap.size w7 (((wY).setCell ⟨yb, 0, none⟩ (.slice xa ls.length xc)).setCell ⟨yb, 1, none⟩ (.slice xsa (ln (d + 1) (l : List (Pay × Tr d × Tr d))) xsc)) := (hHeld.setCell hy8 _).setCell hy8 _
      clear CY olx osx hne
      go_simp
      clear c0 c1 f0 f1
      generalize ((wY).setCell ⟨yb, 0, none⟩ (.slice xa ls.length xc)).setCell ⟨yb, 1, none⟩ (.slice xsa (ln (d + 1) (l : List (Pay × Tr d × Tr d))) xsc) = wF at GY LX SX BY ⊢
      refine hK.out _ _ (BY) (fun hHeld => ?_)
      clear hK K
      refine' wpAnyH_take (i := 9) (v := _) rfl (by kernel_rfl) (by kernel_rfl) (by kernel_rfl) (fun _ _ _ h => h) (Or.inl ⟨by rfl, ?hy30006⟩) hHeld ?hn30006
      case hy30006 => (intro wz hSw; go_simp; first | done | with_reducible rfl)
      try simp only [List.getElem_toArray, List.getElem_cons_zero, List.getElem_cons_succ, Act.put, List.setIfInBounds_toArray, List.set_cons_zero, List.set_cons_succ]
      refine wpAnyH_done (by kernel_rfl) ?_ _
      have B_wF : Hid (Below w6.heap.size w6 wF) := Below.then B_w7.out hHeld B_w7.out.size
      have HLX : Hid (∀ wz, Below wF.heap.size wF wz → LRep wz (.slice xa ls.length xc) ls ∧ Rep wz (d + 1) (.slice xsa (ln (d + 1) (l : List (Pay × Tr d × Tr d))) xsc) (l : List (Pay × Tr d × Tr d))) := (show ∀ wz, _ from fun wz hb => ⟨LX.below hb, SX.below hb⟩)
      replace p0 := cell_later hHeld p0
      replace p1 := cell_later hHeld p1
      replace q0 := cell_later hHeld q0
      replace q1 := cell_later hHeld q1
      obtain ⟨⟨y0, y1⟩, -⟩ := GY
      clear hHeld LX SX hyl hy8
      go_wp2_with fail
      (try go_at_call 29); refine Calls.mono (progOk_any (HAL.out _ B_wF.out).2.2.1 (HAL.out _ B_wF.out).2.2.2) ?_
      rintro e z1 ⟨rfl, hbz⟩
      rw [HQ.out]
      have B_z1 : Below wF.heap.size wF z1 := hbz
      replace p0 := cell_later hbz p0
      replace p1 := cell_later hbz p1
      replace y0 := cell_later hbz y0
      replace y1 := cell_later hbz y1
      have KL : Hid _ := lcProg_same (HLX.out z1 hbz).1 (HLX.out z1 hbz).2 (HAL.out z1 (Below.then B_wF.out hbz B_wF.out.size)).1.1 (HAL.out z1 (Below.then B_wF.out hbz B_wF.out.size)).1.2.1
      clear hbz
      go_wp2_with fail
      (try go_at_call 28); refine Calls.mono KL.out ?_
      rintro e z2 ⟨rfl, hbz⟩
      have B_z2 := Below.then B_z1 hbz B_z1.size
      clear B_z1 KL hbz
      have HBF : Hid (Below w.heap.size w _) := Below.then HB6.out (Below.then B_wF.out B_z2 B_wF.out.size) HB6.out.size
      clear p0 p1 q0 q1 y0 y1 B_z2
      go_wp2
      go_ret
      exact ⟨by simp, HBF.out⟩
    · go_simp
      have CY := C2.new wB (.slice none 0 0) (.slice none 0 0) 43
      have AL : Below (wB).heap.size wB (World.alloc wB (.cells #[.slice none 0 0, .slice none 0 0] 43)) := (Below.refl _ _).alloc (Nat.le_refl _) _
      obtain ⟨yb, hyb⟩ : ∃ yb, yb = (wB).heap.size := ⟨_, rfl⟩
      have hyl : yb < ((World.alloc wB (.cells #[.slice none 0 0, .slice none 0 0] 43))).heap.size := by rw [hyb]; exact C2.lt CY
      have hy8 : w7.heap.size ≤ yb := by rw [hyb]; first | exact Nat.le_refl _ | exact hHeld.size
      rw [← hyb] at CY ⊢
      replace hgb := hgb.below AL
      clear hyb
      generalize (World.alloc wB (.cells #[.slice none 0 0, .slice none 0 0] 43)) = wY at *
      refine hK.out _ _ (Below.then hHeld AL hHeld.size) (fun hHeld => ?_)
      clear hK K
      refine wpAnyH_ready (rs := [3]) (by kernel_rfl) (by simp) ?_
      refine AllReadyH.cons rfl (fun K hK => ?_) AllReadyH.nil
      go_simp
      refine Calls.mono (HX.out _ _ (Below.then B_w7.out hHeld B_w7.out.size) hgb) ?_
      rintro e' wR ⟨vxl, vxs, b5, b6, rfl, hbR, olx, osx, hrg, -, -⟩
      obtain ⟨xa, xc, rfl, -⟩ := id olx.rep
      obtain ⟨xsa, xsc, rfl⟩ := osx.slice
      clear hgb
      have hne : ∀ b ∈ b5 ++ b6, b ≠ yb := fun b hb => by have := (hrg b hb).1; omega
      replace CY := C2.below CY hbR
      replace hyl := Nat.lt_of_lt_of_le hyl hbR.size
      clear hrg
      refine hK.out _ _ (Below.then hHeld hbR hHeld.size) (fun hHeld => ?_)
      clear hK K
      refine' wpAnyH_take (i := 4) (v := _) rfl (by kernel_rfl) (by kernel_rfl) (by kernel_rfl) (fun _ _ _ h => h) (Or.inl ⟨by rfl, ?hy30007⟩) hHeld ?hn30007
      case hy30007 => (intro wz hSw; go_simp; first | done | with_reducible rfl)
      try simp only [List.getElem_toArray, List.getElem_cons_zero, List.getElem_cons_succ, Act.put, List.setIfInBounds_toArray, List.set_cons_zero, List.set_cons_succ]
      refine' wpAnyH_take (i := 5) (v := _) rfl (by kernel_rfl) (by kernel_rfl) (by kernel_rfl) (fun _ _ _ h => h) (Or.inl ⟨by rfl, ?hy30008⟩) hHeld ?hn30008
      case hy30008 => (intro wz hSw; go_simp; first | done | with_reducible rfl)
      try simp only [List.getElem_toArray, List.getElem_cons_zero, List.getElem_cons_succ, Act.put, List.setIfInBounds_toArray, List.set_cons_zero, List.set_cons_succ]
      refine' wpAnyH_take (i := 6) (v := _) rfl (by kernel_rfl) (by kernel_rfl) (by kernel_rfl) (fun _ _ _ h => h) (Or.inl ⟨by rfl, ?hy30009⟩) hHeld ?hn30009
      case hy30009 => (intro wz hSw; go_simp; first | done | with_reducible rfl)
      try simp only [List.getElem_toArray, List.getElem_cons_zero, List.getElem_cons_succ, Act.put, List.setIfInBounds_toArray, List.set_cons_zero, List.set_cons_succ]
      refine wpAnyH_ready (rs := [8]) (by kernel_rfl) (by simp) ?_
      refine AllReadyH.cons rfl (fun K hK => ?_) AllReadyH.nil
      obtain ⟨⟨c0, c1⟩, f0, f1⟩ := id CY
      have GY : C2 (((wR).setCell ⟨yb, 0, none⟩ (.slice xa ls.length xc)).setCell ⟨yb, 1, none⟩ (.slice xsa (ln (d + 1) (l : List (Pay × Tr d × Tr d))) xsc)) yb (.slice xa ls.length xc) (.slice xsa (ln (d + 1) (l : List (Pay × Tr d × Tr d))) xsc) := (CY.set0 _).set1 _
      have LX := (LOwn.frame (fun b hb' => far_two (hne b (List.mem_append_left _ hb')) (.slice xa ls.length xc) (.slice xsa (ln (d + 1) (l : List (Pay × Tr d × Tr d))) xsc)) olx).rep
      have SX := (Own.frame (fun b hb' => far_two (hne b (List.mem_append_right _ hb')) (.slice xa ls.length xc) (.slice xsa (ln (d + 1) (l : List (Pay × Tr d × Tr d))) xsc)) osx).rep
      have BY : Below w7.heap.size w7 (((wR).setCell ⟨yb, 0, none⟩ (.slice xa ls.length xc)).setCell ⟨yb, 1, none⟩ (.slice xsa (ln (d + 1) (l : List (Pay × Tr d × Tr d))) xsc)) := (hHeld.setCell hy8 _).setCell hy8 _
      clear CY olx osx hne
      go_simp
      clear c0 c1 f0 f1
      generalize ((wR).setCell ⟨yb, 0, none⟩ (.slice xa ls.length xc)).setCell ⟨yb, 1, none⟩ (.slice xsa (ln (d + 1) (l : List (Pay × Tr d × Tr d))) xsc) = wF at GY LX SX BY ⊢
      refine hK.out _ _ (BY) (fun hHeld => ?_)
      clear hK K
      refine' wpAnyH_take (i := 9) (v := _) rfl (by kernel_rfl) (by kernel_rfl) (by kernel_rfl) (fun _ _ _ h => h) (Or.inl ⟨by rfl, ?hy30010⟩) hHeld ?hn30010
      case hy30010 => (intro wz hSw; go_simp; first | done | with_reducible rfl)
      try simp only [List.getElem_toArray, List.getElem_cons_zero, List.getElem_cons_succ, Act.put, List.setIfInBounds_toArray, List.set_cons_zero, List.set_cons_succ]
      refine wpAnyH_done (by kernel_rfl) ?_ _
      have B_wF : Hid (Below w6.heap.size w6 wF) := Below.then B_w7.out hHeld B_w7.out.size
      have HLX : Hid (∀ wz, Below wF.heap.size wF wz → LRep wz (.slice xa ls.length xc) ls ∧ Rep wz (d + 1) (.slice xsa (ln (d + 1) (l : List (Pay × Tr d × Tr d))) xsc) (l : List (Pay × Tr d × Tr d))) := (show ∀ wz, _ from fun wz hb => ⟨LX.below hb, SX.below hb⟩)
      replace p0 := cell_later hHeld p0
      replace p1 := cell_later hHeld p1
      replace q0 := cell_later hHeld q0
      replace q1 := cell_later hHeld q1
      obtain ⟨⟨y0, y1⟩, -⟩ := GY
      clear hHeld LX SX hyl hy8
      go_wp2_with fail
      (try go_at_call 29); refine Calls.mono (progOk_any (HAL.out _ B_wF.out).2.2.1 (HAL.out _ B_wF.out).2.2.2) ?_
      rintro e z1 ⟨rfl, hbz⟩
      rw [HQ.out]
      have B_z1 : Below wF.heap.size wF z1 := hbz
      replace p0 := cell_later hbz p0
      replace p1 := cell_later hbz p1
      replace y0 := cell_later hbz y0
      replace y1 := cell_later hbz y1
      have KL : Hid _ := lcProg_same (HLX.out z1 hbz).1 (HLX.out z1 hbz).2 (HAL.out z1 (Below.then B_wF.out hbz B_wF.out.size)).1.1 (HAL.out z1 (Below.then B_wF.out hbz B_wF.out.size)).1.2.1
      clear hbz
      go_wp2_with fail
      (try go_at_call 28); refine Calls.mono KL.out ?_
      rintro e z2 ⟨rfl, hbz⟩
      have B_z2 := Below.then B_z1 hbz B_z1.size
      clear B_z1 KL hbz
      have HBF : Hid (Below w.heap.size w _) := Below.then HB6.out (Below.then B_wF.out B_z2 B_wF.out.size) HB6.out.size
      clear p0 p1 q0 q1 y0 y1 B_z2
      go_wp2
      go_ret
      exact ⟨by simp, HBF.out⟩
  · go_simp
    have CY := C2.new w7 (.slice none 0 0) (.slice none 0 0) 43
    have AL : Below w7.heap.size w7 (World.drew (World.alloc w7 (.cells #[.slice none 0 0, .slice none 0 0] 43))) := ((Below.refl _ _).alloc (Nat.le_refl _) _).drew
    replace CY := C2.below CY (Below.drew (Below.refl _ _))
    obtain ⟨yb, hyb⟩ : ∃ yb, yb = (w7).heap.size := ⟨_, rfl⟩
    have hyl : yb < ((World.drew (World.alloc w7 (.cells #[.slice none 0 0, .slice none 0 0] 43)))).heap.size := by rw [hyb]; exact C2.lt CY
    have hy8 : w7.heap.size ≤ yb := by rw [hyb]; first | exact Nat.le_refl _ | exact hHeld.size
    rw [← hyb] at CY ⊢
    clear hyb
    generalize (World.drew (World.alloc w7 (.cells #[.slice none 0 0, .slice none 0 0] 43))) = wY at *
    refine hK.out _ _ (AL) (fun hHeld => ?_)
    clear hK K
    refine wpAnyH_ready (rs := [2]) (by kernel_rfl) (by simp) ?_
    refine AllReadyH.cons rfl (fun K hK => ?_) AllReadyH.nil
    go_simp
    refine Calls.mono (KB.out _ (Below.then B_w7.out hHeld B_w7.out.size)) ?_
    rintro e' wB ⟨g2, c2', rfl, hbx, -, hgb⟩
    replace CY := C2.below CY hbx
    replace hyl := Nat.lt_of_lt_of_le hyl hbx.size
    refine hK.out _ _ (Below.then hHeld hbx hHeld.size) (fun hHeld => ?_)
    clear hK K
    refine wpAnyH_ready (rs := [3]) (by kernel_rfl) (by simp) ?_
    refine AllReadyH.cons rfl (fun K hK => ?_) AllReadyH.nil
    go_simp
    refine Calls.mono (HX.out _ _ (Below.then B_w7.out hHeld B_w7.out.size) hgb) ?_
    rintro e' wR ⟨vxl, vxs, b5, b6, rfl, hbR, olx, osx, hrg, -, -⟩
    obtain ⟨xa, xc, rfl, -⟩ := id olx.rep
    obtain ⟨xsa, xsc, rfl⟩ := osx.slice
    clear hgb
    have hne : ∀ b ∈ b5 ++ b6, b ≠ yb := fun b hb => by have := (hrg b hb).1; omega
    replace CY := C2.below CY hbR
    replace hyl := Nat.lt_of_lt_of_le hyl hbR.size
    clear hrg
    refine hK.out _ _ (Below.then hHeld hbR hHeld.size) (fun hHeld => ?_)
    clear hK K
    refine' wpAnyH_take (i := 4) (v := _) rfl (by kernel_rfl) (by kernel_rfl) (by kernel_rfl) (fun _ _ _ h => h) (Or.inl ⟨by rfl, ?hy30011⟩) hHeld ?hn30011
    case hy30011 => (intro wz hSw; go_simp; first | done | with_reducible rfl)
    try simp only [List.getElem_toArray, List.getElem_cons_zero, List.getElem_cons_succ, Act.put, List.setIfInBounds_toArray, List.set_cons_zero, List.set_cons_succ]
    refine' wpAnyH_take (i := 5) (v := _) rfl (by kernel_rfl) (by kernel_rfl) (by kernel_rfl) (fun _ _ _ h => h) (Or.inl ⟨by rfl, ?hy30012⟩) hHeld ?hn30012
    case hy30012 => (intro wz hSw; go_simp; first | done | with_reducible rfl)
    try simp only [List.getElem_toArray, List.getElem_cons_zero, List.getElem_cons_succ, Act.put, List.setIfInBounds_toArray, List.set_cons_zero, List.set_cons_succ]
    refine' wpAnyH_take (i := 6) (v := _) rfl (by kernel_rfl) (by kernel_rfl) (by kernel_rfl) (fun _ _ _ h => h) (Or.inl ⟨by rfl, ?hy30013⟩) hHeld ?hn30013
    case hy30013 => (intro wz hSw; go_simp; first | done | with_reducible rfl)
    try simp only [List.getElem_toArray, List.getElem_cons_zero, List.getElem_cons_succ, Act.put, List.setIfInBounds_toArray, List.set_cons_zero, List.set_cons_succ]
    refine wpAnyH_ready (rs := [8]) (by kernel_rfl) (by simp) ?_
    refine AllReadyH.cons rfl (fun K hK => ?_) AllReadyH.nil
    obtain ⟨⟨c0, c1⟩, f0, f1⟩ := id CY
    have GY : C2 (((wR).setCell ⟨yb, 0, none⟩ (.slice xa ls.length xc)).setCell ⟨yb, 1, none⟩ (.slice xsa (ln (d + 1) (l : List (Pay × Tr d × Tr d))) xsc)) yb (.slice xa ls.length xc) (.slice xsa (ln (d + 1) (l : List (Pay × Tr d × Tr d))) xsc) := (CY.set0 _).set1 _
    have LX := (LOwn.frame (fun b hb' => far_two (hne b (List.mem_append_left _ hb')) (.slice xa ls.length xc) (.slice xsa (ln (d + 1) (l : List (Pay × Tr d × Tr d))) xsc)) olx).rep
    have SX := (Own.frame (fun b hb' => far_two (hne b (List.mem_append_right _ hb')) (.slice xa ls.length xc) (.slice xsa (ln (d + 1) (l : List (Pay × Tr d × Tr d))) xsc)) osx).rep
    have BY : Below w7.heap.size w7 (((wR).setCell ⟨yb, 0, none⟩ (.slice xa ls.length xc)).setCell ⟨yb, 1, none⟩ (.slice xsa (ln (d + 1) (l : List (Pay × Tr d × Tr d))) xsc)) := (hHeld.setCell hy8 _).setCell hy8 _
    clear CY olx osx hne
    go_simp
    clear c0 c1 f0 f1
    generalize ((wR).setCell ⟨yb, 0, none⟩ (.slice xa ls.length xc)).setCell ⟨yb, 1, none⟩ (.slice xsa (ln (d + 1) (l : List (Pay × Tr d × Tr d))) xsc) = wF at GY LX SX BY ⊢
    refine hK.out _ _ (BY) (fun hHeld => ?_)
    clear hK K
    refine' wpAnyH_take (i := 9) (v := _) rfl (by kernel_rfl) (by kernel_rfl) (by kernel_rfl) (fun _ _ _ h => h) (Or.inl ⟨by rfl, ?hy30014⟩) hHeld ?hn30014
    case hy30014 => (intro wz hSw; go_simp; first | done | with_reducible rfl)
    try simp only [List.getElem_toArray, List.getElem_cons_zero, List.getElem_cons_succ, Act.put, List.setIfInBounds_toArray, List.set_cons_zero, List.set_cons_succ]
    refine wpAnyH_done (by kernel_rfl) ?_ _
    have B_wF : Hid (Below w6.heap.size w6 wF) := Below.then B_w7.out hHeld B_w7.out.size
    have HLX : Hid (∀ wz, Below wF.heap.size wF wz → LRep wz (.slice xa ls.length xc) ls ∧ Rep wz (d + 1) (.slice xsa (ln (d + 1) (l : List (Pay × Tr d × Tr d))) xsc) (l : List (Pay × Tr d × Tr d))) := (show ∀ wz, _ from fun wz hb => ⟨LX.below hb, SX.below hb⟩)
    replace p0 := cell_later hHeld p0
    replace p1 := cell_later hHeld p1
    replace q0 := cell_later hHeld q0
    replace q1 := cell_later hHeld q1
    obtain ⟨⟨y0, y1⟩, -⟩ := GY
    clear hHeld LX SX hyl hy8
    go_wp2_with fail
    (try go_at_call 29); refine Calls.mono (progOk_any (HAL.out _ B_wF.out).2.2.1 (HAL.out _ B_wF.out).2.2.2) ?_
    rintro e z1 ⟨rfl, hbz⟩
    rw [HQ.out]
    have B_z1 : Below wF.heap.size wF z1 := hbz
    replace p0 := cell_later hbz p0
    replace p1 := cell_later hbz p1
    replace y0 := cell_later hbz y0
    replace y1 := cell_later hbz y1
    have KL : Hid _ := lcProg_same (HLX.out z1 hbz).1 (HLX.out z1 hbz).2 (HAL.out z1 (Below.then B_wF.out hbz B_wF.out.size)).1.1 (HAL.out z1 (Below.then B_wF.out hbz B_wF.out.size)).1.2.1
    clear hbz
    go_wp2_with fail
    (try go_at_call 28); refine Calls.mono KL.out ?_
    rintro e z2 ⟨rfl, hbz⟩
    have B_z2 := Below.then B_z1 hbz B_z1.size
    clear B_z1 KL hbz
    have HBF : Hid (Below w.heap.size w _) := Below.then HB6.out (Below.then B_wF.out B_z2 B_wF.out.size) HB6.out.size
    clear p0 p1 q0 q1 y0 y1 B_z2
    go_wp2
    go_ret
    exact ⟨by simp, HBF.out⟩

end Go.Proofs.Ytfmhdjnambnglaa
