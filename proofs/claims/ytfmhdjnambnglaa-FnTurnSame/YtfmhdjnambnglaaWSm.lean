/- Turned by nothing a program stays: the law, walked. -/
import Derived.Test.YtfmhdjnambnglaaTpi
import Derived.Test.YtfmhdjnambnglaaTpv
import Derived.Test.YtfmhdjnambnglaaTps
import Derived.Test.YtfmhdjnambnglaaTlw
namespace Go.Proofs.Ytfmhdjnambnglaa
open Go.RowKit
set_option linter.unusedSimpArgs false
set_option linter.unusedVariables false
attribute [local go_sem ↓] Go.wp_at_zero Go.wp_at_succ
attribute [local go_sem] World.cell?_alloc_some

theorem allI_at {n i : Nat} (h : i < n) : (allI n).getD i 0 = (i : Int) := by simp [allI, List.getD_eq_getElem?_getD, h]
theorem allI_row (n : Nat) : rowB (allI n) n = true := rowB_iff.2 ⟨by simp [allI], fun z hz => mem_allI.1 hz, allI_nodup n⟩
theorem row012 : rowB [0, 1, 2] 3 = true := by decide
theorem turn012 {ls : List (Int × Int)} (h : labsB ls = true) : turnLs [0, 1, 2] ls = ls := by
  have hs : ∀ s : Int, 0 ≤ s → s ≤ 7 → turnI s [0, 1, 2] = s := fun s h0 h7 => by
    have := of_allS (P := fun s => decide (turnI s [0, 1, 2] = s)) (by decide +kernel) h0 h7
    simpa using this
  refine List.ext_getElem (turnLs_len _ _) fun i h1 h2 => ?_
  obtain ⟨⟨a0, a7⟩, b0, b7⟩ := labs_at h i h2
  simp only [turnLs, List.getElem_map, hs _ a0 a7, hs _ b0 b7]
theorem host012 {n : Int} {d : Nat} {T : Tr d} (h : allP (okP n) d T) : mapT (hostF [0, 1, 2]) d T = T := mapT_id (P := okP n) (fun p hp => by
  unfold hostF
  by_cases hk : p.k = 3
  · rw [if_pos hk]
    obtain ⟨h0, h2⟩ := okP_host hp hk
    obtain ⟨pk, pv, pvk, pva, pvb, ph⟩ := p
    dsimp only at h0 h2 ⊢
    obtain rfl | rfl | rfl : ph = 0 ∨ ph = 1 ∨ ph = 2 := by omega
    all_goals rfl
  · rw [if_neg hk]) d T h
theorem varAll {n : Nat} {d : Nat} {T : Tr d} (h : allP (okP n) d T) : mapT (varF (allI n)) d T = T := mapT_id (P := okP n) (fun p hp => by
  have ha : ∀ v : Int, 0 ≤ v → v < n → (allI n).getD v.toNat 0 = v := fun v h0 h1 => by rw [allI_at (by omega)]; omega
  obtain ⟨⟨v0, v1⟩, hk⟩ := okP_var hp
  obtain ⟨pk, pv, pvk, pva, pvb, ph⟩ := p
  dsimp only at v0 v1 hk
  unfold varF
  dsimp only
  rw [ha _ v0 v1]
  rcases hk with ⟨_, hk⟩ | ⟨_, hk⟩ | ⟨_, hk, a0, a1⟩ | ⟨_, hk, ⟨a0, a1⟩, b0, b1⟩ | ⟨_, hk, ⟨a0, a1⟩, b0, b1⟩
  · subst hk; rfl
  · subst hk; rfl
  · subst hk; rw [ha _ a0 a1]; rfl
  · subst hk; rw [ha _ a0 a1, ha _ b0 b1]; rfl
  · subst hk; rw [ha _ a0 a1, ha _ b0 b1]; rfl) d T h
theorem movAll (ls : List (Int × Int)) : movL (allI ls.length) ls = ls := by
  refine List.ext_getElem? fun i => ?_
  by_cases hi : i < ls.length
  · have := movL_at (allI_row ls.length) i hi
    rwa [allI_at hi, Int.toNat_natCast] at this
  · rw [List.getElem?_eq_none (by rw [movL_len]; omega), List.getElem?_eq_none (by omega)]
theorem allI_succ (n : Nat) : allI (n + 1) = allI n ++ [(n : Int)] := by simp [allI, List.range_succ]
theorem tp_of {ls : List (Int × Int)} {d : Nat} {T : Tr d} (h : progB ls d T = true) : tpOk [0, 1, 2] ls d T = true ∧ tpL [0, 1, 2] ls d T = ls ∧ tpT [0, 1, 2] ls d T = T := by
  obtain ⟨_, hl, hs, _⟩ := progB4 h
  have hok : tpOk [0, 1, 2] ls d T = true := by unfold tpOk; rw [h, row012]; rfl
  refine ⟨hok, ?_, ?_⟩
  · unfold tpL; rw [if_pos hok, turn012 hl]
  · unfold tpT; rw [if_pos hok, host012 (allP_of d 3 T hs)]
theorem tv_of {ls : List (Int × Int)} {d : Nat} {T : Tr d} (h : progB ls d T = true) : tvOk (allI ls.length) ls d T = true ∧ tvL (allI ls.length) ls d T = ls ∧ tvT (allI ls.length) ls d T = T := by
  obtain ⟨_, hl, hs, _⟩ := progB4 h
  have hok : tvOk (allI ls.length) ls d T = true := by unfold tvOk; rw [h, allI_row]; rfl
  refine ⟨hok, ?_, ?_⟩
  · unfold tvL; rw [if_pos hok, movAll]
  · unfold tvT; rw [if_pos hok, varAll (allP_of d 3 T hs)]

set_option maxHeartbeats 16000000 in
set_option maxRecDepth 20000 in
theorem fnTurnSame_walk (a0 : Option Addr) (len0 cap0 : Nat) (z0 : List Int) (w : World) (h0 : IsRow .u8 w a0 len0 cap0 z0) :
    Calls Try.prog 9 #[.slice a0 len0 cap0] w fun e w' => e = .returned (.bool true) ∧ Below w.heap.size w w' := by
  by_cases hl0 : (1048576 : Int) < (len0 : Int)
  · go_enter Try.func9, Try.ntmps9
    go_wp2
    go_ret
    exact ⟨rfl, Below.refl _ _⟩
  have C1 : Hid _ := drawTurnProg_any w a0 len0 cap0 z0 h0
  clear h0
  go_enter Try.func9, Try.ntmps9
  go_wp2_with fail
  go_at_call 25; refine Calls.mono C1.out ?_
  rintro e w1 ⟨la, sa, lc, sc, ls, d, l, zs, g, nc, rfl, hL, hR, hG, hb1, ll, cn, zl⟩
  have HB1 : Hid (Below w.heap.size w w1) := hb1
  have A2 : Below w1.heap.size w1 (w1.alloc (.cells #[.slice la ls.length lc, .slice sa (ln (d + 1) (l : List (Pay × Tr d × Tr d))) sc] 43)) := (Below.refl _ _).alloc (Nat.le_refl _) _
  have G2 := C2.new w1 (.slice la ls.length lc) (.slice sa (ln (d + 1) (l : List (Pay × Tr d × Tr d))) sc) 43
  obtain ⟨w2, hw2⟩ : ∃ W, w1.alloc (.cells #[.slice la ls.length lc, .slice sa (ln (d + 1) (l : List (Pay × Tr d × Tr d))) sc] 43) = W := ⟨_, rfl⟩
  rw [hw2] at A2 G2
  have HW2 : Hid _ := hw2
  have K2 : Hid _ := sTurnProg_any (hL.below A2) (hR.below A2) (by omega) (hG.below A2)
  have HRR : Hid (∀ wz, Below w1.heap.size w1 wz → LRep wz (.slice la ls.length lc) ls ∧ Rep wz (d + 1) (.slice sa (ln (d + 1) (l : List (Pay × Tr d × Tr d))) sc) (l : List (Pay × Tr d × Tr d)) ∧ GRep (Value.int .i64) wz (.slice (some ⟨g, 0, none⟩) zs.length nc) zs) := (show ∀ wz, _ from fun wz hb => ⟨hL.below hb, hR.below hb, hG.below hb⟩)
  have HG2 : Hid (C2 w2 w1.heap.size (.slice la ls.length lc) (.slice sa (ln (d + 1) (l : List (Pay × Tr d × Tr d))) sc)) := G2
  have HA2 : Hid (Below w1.heap.size w1 w2) := A2
  obtain ⟨okb, hok⟩ : ∃ x, tpOk zs ls (d + 1) (l : List (Pay × Tr d × Tr d)) = x := ⟨_, rfl⟩
  obtain ⟨LN, hLN⟩ : ∃ x, tpL zs ls (d + 1) (l : List (Pay × Tr d × Tr d)) = x := ⟨_, rfl⟩
  obtain ⟨TN, hTN⟩ : ∃ x, tpT zs ls (d + 1) (l : List (Pay × Tr d × Tr d)) = x := ⟨_, rfl⟩
  rw [hok, hLN, hTN] at K2
  have HOK : Hid _ := hok
  have HLN : Hid _ := hLN
  have HTN : Hid _ := hTN
  obtain ⟨⟨p0, p1⟩, -⟩ := G2
  clear hok hLN hTN hw2 A2 hL hR hG hb1 C1
  go_wp2_with fail
  rw [HW2.out]
  clear HW2
  (try go_at_call 26); refine Calls.mono K2.out ?_
  rintro e w3 ⟨vwl, vws, c1, c2, rfl, hb3, olw, osw, -, -, -⟩
  obtain ⟨wla, wlc, rfl, -⟩ := id olw.rep
  obtain ⟨wsa, wsc, rfl⟩ := osw.slice
  have HWW : Hid (∀ wz, Below w3.heap.size w3 wz → LRep wz (.slice wla LN.length wlc) LN ∧ Rep wz (d + 1) (.slice wsa (ln (d + 1) TN) wsc) TN) := (show ∀ wz, _ from fun wz hb => ⟨olw.rep.below hb, osw.rep.below hb⟩)
  have HG3 : Hid (C2 w3 w1.heap.size (.slice la ls.length lc) (.slice sa (ln (d + 1) (l : List (Pay × Tr d × Tr d))) sc)) := C2.same HG2.out (hb3.block _ (World.block_lt_of_cell? _ _ HG2.out.1.1))
  have HB13 : Hid (Below w1.heap.size w1 w3) := Below.then HA2.out hb3 HA2.out.size
  have A4 : Below w3.heap.size w3 (w3.alloc (.cells #[.slice wla LN.length wlc, .slice wsa (ln (d + 1) TN) wsc] 43)) := (Below.refl _ _).alloc (Nat.le_refl _) _
  have G4 := C2.new w3 (.slice wla LN.length wlc) (.slice wsa (ln (d + 1) TN) wsc) 43
  obtain ⟨w4, hw4⟩ : ∃ W, w3.alloc (.cells #[.slice wla LN.length wlc, .slice wsa (ln (d + 1) TN) wsc] 43) = W := ⟨_, rfl⟩
  rw [hw4] at A4 G4
  have HW4 : Hid _ := hw4
  have HA4 : Hid (Below w3.heap.size w3 w4) := A4
  have HB14 : Hid (Below w1.heap.size w1 w4) := Below.then HB13.out A4 HB13.out.size
  have K4 : Hid _ := turnProg_any (HRR.out _ HB14.out).1 (HRR.out _ HB14.out).2.1 (HRR.out _ HB14.out).2.2
  rw [HOK.out, HLN.out, HTN.out] at K4
  have HG4 : Hid (C2 w4 w3.heap.size (.slice wla LN.length wlc) (.slice wsa (ln (d + 1) TN) wsc)) := G4
  replace p0 := cell_later hb3 p0
  replace p1 := cell_later hb3 p1
  clear hw4 A4 G4 hb3 olw osw K2 HG2 HA2
  go_wp2_with fail
  rw [HW4.out]
  clear HW4 p0 p1
  (try go_at_call 27); refine Calls.mono K4.out ?_
  rintro e w5 ⟨vql, vqs, c3, c4, rfl, hb5, olq, osq, -, -, -⟩
  obtain ⟨qla, qlc, rfl, -⟩ := id olq.rep
  obtain ⟨qsa, qsc, rfl⟩ := osq.slice
  have A6 : Below w5.heap.size w5 (w5.alloc (.cells #[.slice qla LN.length qlc, .slice qsa (ln (d + 1) TN) qsc] 43)) := (Below.refl _ _).alloc (Nat.le_refl _) _
  have G6 := C2.new w5 (.slice qla LN.length qlc) (.slice qsa (ln (d + 1) TN) qsc) 43
  obtain ⟨w6, hw6⟩ : ∃ W, w5.alloc (.cells #[.slice qla LN.length qlc, .slice qsa (ln (d + 1) TN) qsc] 43) = W := ⟨_, rfl⟩
  rw [hw6] at A6 G6
  have HW6 : Hid _ := hw6
  have HB16 : Hid (Below w1.heap.size w1 w6) := Below.then (Below.then HB14.out hb5 HB14.out.size) A6 (Below.then HB14.out hb5 HB14.out.size).size
  have HB36 : Hid (Below w3.heap.size w3 w6) := Below.then (Below.then HA4.out hb5 HA4.out.size) A6 (Below.then HA4.out hb5 HA4.out.size).size
  have HB46 : Hid (Below w4.heap.size w4 w6) := Below.then hb5 A6 hb5.size
  have HGP : Hid (∀ wz, Below w6.heap.size w6 wz → (wz.cell? ⟨w1.heap.size, 0, none⟩ = some (.slice la ls.length lc) ∧ wz.cell? ⟨w1.heap.size, 1, none⟩ = some (.slice sa (ln (d + 1) (l : List (Pay × Tr d × Tr d))) sc)) ∧ (wz.cell? ⟨w3.heap.size, 0, none⟩ = some (.slice wla LN.length wlc) ∧ wz.cell? ⟨w3.heap.size, 1, none⟩ = some (.slice wsa (ln (d + 1) TN) wsc)) ∧ (wz.cell? ⟨w5.heap.size, 0, none⟩ = some (.slice qla LN.length qlc) ∧ wz.cell? ⟨w5.heap.size, 1, none⟩ = some (.slice qsa (ln (d + 1) TN) qsc))) := (show ∀ wz, _ from fun wz hb => ⟨⟨cell_later hb (cell_later HB36.out HG3.out.1.1), cell_later hb (cell_later HB36.out HG3.out.1.2)⟩, ⟨cell_later hb (cell_later HB46.out HG4.out.1.1), cell_later hb (cell_later HB46.out HG4.out.1.2)⟩, cell_later hb G6.1.1, cell_later hb G6.1.2⟩)
  have HAL : Hid (∀ wz, Below w6.heap.size w6 wz → (LRep wz (.slice la ls.length lc) ls ∧ Rep wz (d + 1) (.slice sa (ln (d + 1) (l : List (Pay × Tr d × Tr d))) sc) (l : List (Pay × Tr d × Tr d)) ∧ GRep (Value.int .i64) wz (.slice (some ⟨g, 0, none⟩) zs.length nc) zs) ∧ (LRep wz (.slice wla LN.length wlc) LN ∧ Rep wz (d + 1) (.slice wsa (ln (d + 1) TN) wsc) TN) ∧ (LRep wz (.slice qla LN.length qlc) LN ∧ Rep wz (d + 1) (.slice qsa (ln (d + 1) TN) qsc) TN)) := (show ∀ wz, _ from fun wz hb => ⟨HRR.out wz (Below.then HB16.out hb HB16.out.size), HWW.out wz (Below.then HB36.out hb HB36.out.size), (olq.rep.below A6).below hb, (osq.rep.below A6).below hb⟩)
  have HG5 : Hid ((w5.cell? ⟨w1.heap.size, 0, none⟩ = some (.slice la ls.length lc) ∧ w5.cell? ⟨w1.heap.size, 1, none⟩ = some (.slice sa (ln (d + 1) (l : List (Pay × Tr d × Tr d))) sc)) ∧ w5.cell? ⟨w3.heap.size, 0, none⟩ = some (.slice wla LN.length wlc) ∧ w5.cell? ⟨w3.heap.size, 1, none⟩ = some (.slice wsa (ln (d + 1) TN) wsc)) := ⟨⟨cell_later hb5 (cell_later HA4.out HG3.out.1.1), cell_later hb5 (cell_later HA4.out HG3.out.1.2)⟩, cell_later hb5 HG4.out.1.1, cell_later hb5 HG4.out.1.2⟩
  have HB6 : Hid (Below w.heap.size w w6) := Below.then HB1.out HB16.out HB1.out.size
  have KC : Hid (∀ wz, Below w6.heap.size w6 wz → Calls Try.prog 28 #[.agg #[.slice qla LN.length qlc, .slice qsa (ln (d + 1) TN) qsc], .agg #[.slice wla LN.length wlc, .slice wsa (ln (d + 1) TN) wsc]] wz fun e w' => e = .returned (.bool true) ∧ Below wz.heap.size wz w') := (show ∀ wz, _ from fun wz hb => lcProg_same (HAL.out wz hb).2.2.1 (HAL.out wz hb).2.2.2 (HAL.out wz hb).2.1.1 (HAL.out wz hb).2.1.2)
  have B66 : Hid (Below w6.heap.size w6 w6) := Below.refl _ _
  clear hw6 A6 G6 hb5 olq osq K4 HG3 HG4 HA4 HB13 HB14 HB16 HB36 HB46 HRR HWW HB1
  obtain ⟨pb, hpb⟩ : ∃ pb, progB ls (d + 1) (l : List (Pay × Tr d × Tr d)) = pb := ⟨_, rfl⟩
  have KP : Hid (∀ wz, Below w6.heap.size w6 wz → Calls Try.prog 38 #[.agg #[.slice la ls.length lc, .slice sa (ln (d + 1) (l : List (Pay × Tr d × Tr d))) sc]] wz fun e w' => e = .returned (.bool pb) ∧ Below wz.heap.size wz w') := (show ∀ wz, _ from fun wz hb => by
    have := sProgOk_any (HAL.out wz hb).1.1 (HAL.out wz hb).1.2.1 (by omega)
    rwa [hpb] at this)
  have HPB : Hid _ := hpb
  have i0all : Hid True := trivial
  clear hpb i0all
  obtain ⟨⟨p0, p1⟩, c0, c1⟩ := HG5.out
  go_wp2_with fail
  rw [HW6.out]
  clear HW6 p0 p1 c0 c1
  (try go_at_call 28); refine Calls.mono (KC.out _ B66.out) ?_
  rintro e w7 ⟨rfl, hb_w7⟩
  have B_w7 : Hid (Below w6.heap.size w6 w7) := Below.then B66.out hb_w7 B66.out.size
  clear hb_w7
  obtain ⟨⟨p0, p1⟩, ⟨c0, c1⟩, q0, q1⟩ := HGP.out w7 B_w7.out
  go_wp2_with fail
  (try go_at_call 38); refine Calls.mono (KP.out _ B_w7.out) ?_
  rintro e w8 ⟨rfl, hb_w8⟩
  have B_w8 : Hid (Below w6.heap.size w6 w8) := Below.then B_w7.out hb_w8 B_w7.out.size
  clear hb_w8
  clear p0 p1 c0 c1 q0 q1
  cases pb
  · obtain ⟨⟨p0, p1⟩, ⟨c0, c1⟩, q0, q1⟩ := HGP.out w8 B_w8.out
    go_wp2_with fail
    (try go_at_call 28); refine Calls.mono (KC.out _ B_w8.out) ?_
    rintro e w9 ⟨rfl, hb_w9⟩
    have B_w9 : Hid (Below w6.heap.size w6 w9) := Below.then B_w8.out hb_w9 B_w8.out.size
    clear hb_w9
    clear p0 p1 c0 c1 q0 q1
    go_wp2
    go_ret
    exact ⟨by simp, Below.then HB6.out B_w9.out HB6.out.size⟩
  obtain ⟨i0, hi0, hz0, hz1, hz2⟩ := info_parts infoInt
  obtain ⟨tp1, tp2, tp3⟩ := tp_of HPB.out
  obtain ⟨tv1, tv2, tv3⟩ := tv_of HPB.out
  obtain ⟨l4, -, -, -⟩ := progB4 HPB.out
  have HTP : Hid _ := And.intro tp1 (And.intro tp2 tp3)
  have HTV : Hid _ := And.intro tv1 (And.intro tv2 tv3)
  clear tp1 tp2 tp3 tv1 tv2 tv3
  have ARB : Below w8.heap.size w8 (w8.alloc (.cells #[] 3)) := (Below.refl _ _).alloc (Nat.le_refl _) _
  have ROW0 := World.ownsRow_made (base := w8.heap.size) (e := 3) (size := 1) w8 #[] 0 (by simp) (by unfold maxLen; omega) (by simp)
  have HRW : Hid (Below w8.heap.size w8 (w8.alloc (.cells #[] 3)) ∧ (w8.alloc (.cells #[] 3)).ownsRow w8.heap.size 3 1 (.slice (some ⟨w8.heap.size, 0, none⟩) 0 0) 0 ((allI 0).map (Value.int .i64))) := ⟨ARB, by simpa [allI] using ROW0⟩
  clear ARB ROW0
  go_wp2_with fail
  go_loopw [9, 10] (fun o j wr => ∃ (i ra rc : Nat), i ≤ ls.length ∧ j = .int .i64 i ∧ o = .slice (some ⟨ra, 0, none⟩) i rc ∧ Below w6.heap.size w6 wr ∧ wr.ownsRow w8.heap.size 3 1 (.slice (some ⟨ra, 0, none⟩) i rc) i ((allI i).map (Value.int .i64))) (fun _ j _ => ls.length - (intOf j).toNat)
  case atStart => exact ⟨0, w8.heap.size, 0, by omega, rfl, rfl, Below.then B_w8.out HRW.out.1 B_w8.out.size, HRW.out.2⟩
  case round =>
    obtain ⟨i, ra, rc, hi, rfl, rfl, hbr, hor⟩ := hrel
    have HBR : Hid (Below w6.heap.size w6 wr) := hbr
    have HOR : Hid (wr.ownsRow w8.heap.size 3 1 (.slice (some ⟨ra, 0, none⟩) i rc) i ((allI i).map (Value.int .i64))) := hor
    have hsz : w6.heap.size ≤ wr.heap.size := hbr.size
    have hral := World.ownsRow.lt hor ra rfl
    obtain ⟨⟨p0, p1⟩, -⟩ := HGP.out wr hbr
    clear hbr hor
    by_cases hlt : i < ls.length
    · have i1' : (i : Int) < (ls.length : Int) := by omega
      have s86 : w6.heap.size ≤ w8.heap.size := B_w8.out.size
      go_wp2_with (at_builtin; refine wpList_append_own_at _ rfl _ _ 23 rfl w8.heap.size 3 i0 _ 1 8 Try.underlying23 hi0 hz0 hz1 hz2 rfl (by decide) _ _ _ rfl (HOR.out.alloc _) ⟨wr.heap.size, 0, none⟩ 1 1 [.int .i64 i] rfl rfl ?c11 ?c21 ?c31 ?c41 ?c51 ?_)
      case c11 => exact cells_new1 wr _ _ _ rfl
      case c21 => simp [Value.oneCell']
      case c31 => unfold maxLen; omega
      case c41 => omega
      case c51 => simp; omega
      intro v5 w5' own5 grow5 nn5 at5
      have nz : v5 ≠ .slice none 0 0 := by intro e; have := nn5; simp [e] at this
      obtain ⟨g5, gc5, hv5⟩ : ∃ g5 gc5, v5 = .slice (some ⟨g5, 0, none⟩) (i + 1) gc5 := by
        obtain ⟨_, ⟨q, _⟩ | ⟨g5, c5, _, q, _⟩⟩ := id own5
        · exact (nz q).elim
        · exact ⟨g5, c5, q⟩
      subst hv5
      have BX : Hid (Below w6.heap.size w6 w5') := (HBR.out.alloc hsz _).grown grow5 (by simp; omega) (fun k hk => by have e : ra = k := (by simpa [Value.ownBlock] using hk); omega)
      have OX : Hid (w5'.ownsRow w8.heap.size 3 1 (.slice (some ⟨g5, 0, none⟩) (i + 1) gc5) (i + 1) ((allI (i + 1)).map (Value.int .i64))) := (show w5'.ownsRow w8.heap.size 3 1 (.slice (some ⟨g5, 0, none⟩) (i + 1) gc5) (i + 1) ((allI (i + 1)).map (Value.int .i64)) by rw [allI_succ, List.map_append]; exact own5)
      clear own5 grow5 nn5 at5 nz p0 p1
      go_wp2
      exact ⟨⟨i + 1, g5, gc5, by omega, by simp, by simp, BX.out, OX.out⟩, by simp [intOf]; omega⟩
    · have hie : i = ls.length := by omega
      subst hie
      have HRS : Hid (∀ wz, Below wr.heap.size wr wz → GRep (Value.int .i64) wz (.slice (some ⟨ra, 0, none⟩) (allI ls.length).length rc) (allI ls.length)) := (show ∀ wz, _ from fun wz hb => GRep.below hb (row_rep1 (by rw [show (allI ls.length).length = ls.length by simp [allI]]; exact HOR.out)))
      have HAN : Hid ((allI ls.length).length = ls.length) := (show (allI ls.length).length = ls.length by simp [allI])
      rw [HAN.out] at HRS
      have A3 : Below wr.heap.size wr (wr.alloc (.cells #[.int .i64 0, .int .i64 1, .int .i64 2] 3)) := (Below.refl _ _).alloc (Nat.le_refl _) _
      have R3' : GRep (Value.int .i64) (wr.alloc (.cells #[.int .i64 0, .int .i64 1, .int .i64 2] 3)) (.slice (some ⟨wr.heap.size, 0, none⟩) ([0, 1, 2] : List Int).length 3) [0, 1, 2] := by
        refine ⟨_, _, rfl, Nat.le_refl _, by unfold maxLen; decide, fun q hq => ⟨wr.heap.size, 0, rfl, ?_⟩⟩
        match q, hq with
        | 0, _ => simp
        | 1, _ => simp
        | 2, _ => simp
        | q + 3, h => simp at h; omega
      have HB8 : Hid (Below w6.heap.size w6 (wr.alloc (.cells #[.int .i64 0, .int .i64 1, .int .i64 2] 3))) := Below.then HBR.out A3 HBR.out.size
      obtain ⟨wa, hwa⟩ : ∃ W, wr.alloc (.cells #[.int .i64 0, .int .i64 1, .int .i64 2] 3) = W := ⟨_, rfl⟩
      rw [hwa] at A3 R3' HB8
      have HWA : Hid _ := hwa
      have KA : Hid _ := turnProg_any (HAL.out _ HB8.out).1.1 (HAL.out _ HB8.out).1.2.1 R3'
      rw [HTP.out.1, HTP.out.2.1, HTP.out.2.2] at KA
      have HA3 : Hid (Below wr.heap.size wr wa) := A3
      clear hwa A3 R3'
      go_wp2_with fail
      rw [HWA.out]
      clear HWA p0 p1
      (try go_at_call 27); refine Calls.mono KA.out ?_
      rintro e wb ⟨val, vas, k1, k2, rfl, hbb, ola, osa, -, -, -⟩
      obtain ⟨aa, ac, rfl, -⟩ := id ola.rep
      obtain ⟨ba, bc, rfl⟩ := osa.slice
      have AC : Below wb.heap.size wb (wb.alloc (.cells #[.slice aa ls.length ac, .slice ba (ln (d + 1) (l : List (Pay × Tr d × Tr d))) bc] 43)) := (Below.refl _ _).alloc (Nat.le_refl _) _
      have GC := C2.new wb (.slice aa ls.length ac) (.slice ba (ln (d + 1) (l : List (Pay × Tr d × Tr d))) bc) 43
      obtain ⟨wc, hwc⟩ : ∃ W, wb.alloc (.cells #[.slice aa ls.length ac, .slice ba (ln (d + 1) (l : List (Pay × Tr d × Tr d))) bc] 43) = W := ⟨_, rfl⟩
      rw [hwc] at AC GC
      have HWC : Hid _ := hwc
      have HBb : Hid (Below w6.heap.size w6 wb) := Below.then HB8.out hbb HB8.out.size
      have HBC : Hid (Below w6.heap.size w6 wc) := Below.then (Below.then HB8.out hbb HB8.out.size) AC (Below.then HB8.out hbb HB8.out.size).size
      have HRC2 : Hid (Below wr.heap.size wr wc) := Below.then (Below.then HA3.out hbb HA3.out.size) AC (Below.then HA3.out hbb HA3.out.size).size
      have HAA : Hid (∀ wz, Below wc.heap.size wc wz → (LRep wz (.slice aa ls.length ac) ls ∧ Rep wz (d + 1) (.slice ba (ln (d + 1) (l : List (Pay × Tr d × Tr d))) bc) (l : List (Pay × Tr d × Tr d))) ∧ wz.cell? ⟨wb.heap.size, 0, none⟩ = some (.slice aa ls.length ac) ∧ wz.cell? ⟨wb.heap.size, 1, none⟩ = some (.slice ba (ln (d + 1) (l : List (Pay × Tr d × Tr d))) bc)) := (show ∀ wz, _ from fun wz hb => ⟨⟨(ola.rep.below AC).below hb, (osa.rep.below AC).below hb⟩, cell_later hb GC.1.1, cell_later hb GC.1.2⟩)
      have KV : Hid _ := turnVars_any (zs := allI ls.length) (nv := .slice (some ⟨ra, 0, none⟩) ls.length rc) (HAL.out _ HBC.out).1.1 (HAL.out _ HBC.out).1.2.1 (HRS.out _ HRC2.out)
      rw [HTV.out.1, HTV.out.2.1, HTV.out.2.2] at KV
      clear hwc AC GC hbb ola osa KA
      obtain ⟨⟨p0, p1⟩, -⟩ := HGP.out wb HBb.out
      go_wp2_with fail
      rw [HWC.out]
      clear HWC p0 p1
      (try go_at_call 37); refine Calls.mono KV.out ?_
      rintro e wd ⟨vbl, vbs, k3, k4, rfl, hbd, olb, osb, -, -, -⟩
      obtain ⟨ca, cc, rfl, -⟩ := id olb.rep
      obtain ⟨da, dc, rfl⟩ := osb.slice
      have AE : Below wd.heap.size wd (wd.alloc (.cells #[.slice ca ls.length cc, .slice da (ln (d + 1) (l : List (Pay × Tr d × Tr d))) dc] 43)) := (Below.refl _ _).alloc (Nat.le_refl _) _
      have GE := C2.new wd (.slice ca ls.length cc) (.slice da (ln (d + 1) (l : List (Pay × Tr d × Tr d))) dc) 43
      obtain ⟨we, hwe⟩ : ∃ W, wd.alloc (.cells #[.slice ca ls.length cc, .slice da (ln (d + 1) (l : List (Pay × Tr d × Tr d))) dc] 43) = W := ⟨_, rfl⟩
      rw [hwe] at AE GE
      have HWE : Hid _ := hwe
      have HBd : Hid (Below w6.heap.size w6 wd) := Below.then HBC.out hbd HBC.out.size
      have HCd : Hid (Below wc.heap.size wc wd) := hbd
      have HBE : Hid (Below w6.heap.size w6 we) := Below.then HBd.out AE HBd.out.size
      have HCE : Hid (Below wc.heap.size wc we) := Below.then HCd.out AE HCd.out.size
      have HEE : Hid (∀ wz, Below we.heap.size we wz → (LRep wz (.slice ca ls.length cc) ls ∧ Rep wz (d + 1) (.slice da (ln (d + 1) (l : List (Pay × Tr d × Tr d))) dc) (l : List (Pay × Tr d × Tr d))) ∧ wz.cell? ⟨wd.heap.size, 0, none⟩ = some (.slice ca ls.length cc) ∧ wz.cell? ⟨wd.heap.size, 1, none⟩ = some (.slice da (ln (d + 1) (l : List (Pay × Tr d × Tr d))) dc)) := (show ∀ wz, _ from fun wz hb => ⟨⟨(olb.rep.below AE).below hb, (osb.rep.below AE).below hb⟩, cell_later hb GE.1.1, cell_later hb GE.1.2⟩)
      have K1 : Hid _ := lcProg_same (HAA.out we HCE.out).1.1 (HAA.out we HCE.out).1.2 (HAL.out we HBE.out).1.1 (HAL.out we HBE.out).1.2.1
      clear hwe AE GE hbd olb osb KV
      obtain ⟨⟨p0, p1⟩, -⟩ := HGP.out wd HBd.out
      obtain ⟨-, a0', a1'⟩ := HAA.out wd HCd.out
      go_wp2_with fail
      rw [HWE.out]
      clear HWE p0 p1 a0' a1'
      (try go_at_call 28); refine Calls.mono K1.out ?_
      rintro e wf ⟨rfl, hbf⟩
      have HEf : Hid (Below we.heap.size we wf) := hbf
      have HBf : Hid (Below w6.heap.size w6 wf) := Below.then HBE.out hbf HBE.out.size
      have K2' : Hid _ := lcProg_same (HEE.out wf HEf.out).1.1 (HEE.out wf HEf.out).1.2 (HAL.out wf HBf.out).1.1 (HAL.out wf HBf.out).1.2.1
      obtain ⟨⟨p0, p1⟩, -⟩ := HGP.out wf HBf.out
      obtain ⟨-, b0', b1'⟩ := HEE.out wf HEf.out
      clear hbf K1
      go_wp2_with fail
      (try go_at_call 28); refine Calls.mono K2'.out ?_
      rintro e wg ⟨rfl, hbg⟩
      have HBg : Hid (Below w6.heap.size w6 wg) := Below.then HBf.out hbg HBf.out.size
      clear hbg p0 p1 b0' b1' K2'
      go_wp2
      go_ret
      exact ⟨rfl, Below.then HB6.out HBg.out HB6.out.size⟩

end Go.Proofs.Ytfmhdjnambnglaa
