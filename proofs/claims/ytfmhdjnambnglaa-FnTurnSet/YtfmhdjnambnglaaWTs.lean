/- A set that is turned, and turned back, is as it was; the exact law of TurnSet: both walked. -/
import Derived.Test.YtfmhdjnambnglaaTwl
namespace Go.Proofs.Ytfmhdjnambnglaa
open Go.RowKit
set_option linter.unusedSimpArgs false
set_option linter.unusedVariables false
attribute [local go_sem] World.cell?_alloc_some

set_option maxHeartbeats 4000000 in
set_option maxRecDepth 20000 in
theorem fnTurnSet_walk (a0 : Option Addr) (len0 cap0 : Nat) (z0 : List Int) (w : World) (h0 : IsRow .u8 w a0 len0 cap0 z0) :
    Calls Try.prog 3 #[.slice a0 len0 cap0] w fun e w' => e = .returned (.bool true) ∧ Below w.heap.size w w' := by
  by_cases hl0 : (1048576 : Int) < (len0 : Int)
  · go_enter Try.func3, Try.ntmps3
    go_wp2
    go_ret
    exact ⟨rfl, Below.refl _ _⟩
  have C1 : Hid _ := drawTurnSet_any w a0 len0 cap0 z0 h0
  clear h0
  go_enter Try.func3, Try.ntmps3
  go_wp2_with fail
  go_at_call 13; refine Calls.mono C1.out ?_
  rintro e w1 ⟨s, zs, g, c, rfl, sl, sh, hb, hg, zl, -⟩
  have HB : Hid (Below w.heap.size w w1) := hb
  have HG : Hid (∀ wx, Below w1.heap.size w1 wx → GRep (Value.int .i64) wx (.slice (some ⟨g, 0, none⟩) zs.length c) zs) := (show ∀ wx, _ from fun wx hb => hg.below hb)
  have B1 : Hid (Below w1.heap.size w1 w1) := Below.refl _ _
  have KI : Hid (∀ (x : Int) wx, Below w1.heap.size w1 wx → Calls Try.prog 14 #[.int .i64 x, .slice (some ⟨g, 0, none⟩) zs.length c] wx fun e w' => e = .returned (.int .i64 (turnR x zs)) ∧ w' = wx) := (show ∀ (x : Int) wx, _ from fun x wx hb => turnSet_any x (hg.below hb))
  have KS : Hid (∀ (x : Int) wx, Below w1.heap.size w1 wx → Calls Try.prog 15 #[.int .i64 x, .slice (some ⟨g, 0, none⟩) zs.length c] wx fun e w' => e = .returned (.int .i64 (turnR x zs)) ∧ w' = wx) := (show ∀ (x : Int) wx, _ from fun x wx hb => sTurnSet_any x (hg.below hb))
  have KR : Hid _ := lcRow_any 3 (by omega) hg
  clear hb hg C1
  cases hr : rowB zs 3
  · rw [hr] at KR
    generalize hx : turnR s zs = x at *
    go_wp2_with fail
    go_at_call 14; refine Calls.mono (KI.out s _ B1.out) ?_
    rintro e wq ⟨rfl, hq⟩; rw [hq, hx]; clear hq wq
    go_wp2_with fail
    go_at_call 15; refine Calls.mono (KS.out s _ B1.out) ?_
    rintro e wq ⟨rfl, hq⟩; rw [hq, hx]; clear hq wq
    go_wp2_with fail
    go_at_call 16; refine Calls.mono KR.out ?_
    rintro e w2 ⟨rfl, hb2⟩
    have B2 : Hid (Below w1.heap.size w1 w2) := hb2
    clear hb2
    go_wp2_with fail
    go_at_call 15; refine Calls.mono (KS.out s _ B2.out) ?_
    rintro e wq ⟨rfl, hq⟩; rw [hq, hx]; clear hq wq
    go_wp2
    go_ret
    exact ⟨rfl, Below.then HB.out B2.out HB.out.size⟩
  rw [hr] at KR
  by_cases hs : 0 ≤ s ∧ s ≤ 7
  · obtain ⟨s0, s7⟩ := hs
    have hin : inB s = true := inB_iff.2 ⟨s0, s7⟩
    have hti := turnR_yes hin hr
    have HL3 : Hid (zs.length = 3) := rowB_len hr
    obtain ⟨t0, t7⟩ := turnI_bd hr s0 s7
    have HH : Hid (∀ h, h < 3 → hasB (turnI s zs) (zs.getD h 0) = hasB s (h : Int)) := (show ∀ h, _ from fun h hh => turn_has hr s0 s7 h hh)
    have HBK : Hid (turnR (turnI s zs) (backL zs) = s) := (show turnR (turnI s zs) (backL zs) = s by rw [turnR_yes (inB_iff.2 ⟨t0, t7⟩) (back_row hr (by omega))]; exact turn_back hr s0 s7)
    have HRI : Hid (∀ i (hi : i < zs.length), 0 ≤ zs[i] ∧ zs[i] < (3 : Nat)) := (show ∀ i (hi : i < zs.length), _ from rowB_in hr)
    have KB : Hid (∀ wx, Below w1.heap.size w1 wx → Calls Try.prog 18 #[.slice (some ⟨g, 0, none⟩) zs.length c] wx fun e w' => ∃ g' c', e = .returned (.slice (some ⟨g', 0, none⟩) zs.length c') ∧ Below wx.heap.size wx w' ∧ wx.heap.size ≤ g' ∧ GRep (Value.int .i64) w' (.slice (some ⟨g', 0, none⟩) zs.length c') (backL zs)) := (show ∀ wx, _ from fun wx hb => lcBack_any (by rw [HL3.out]; exact hr) (by rw [HL3.out]; omega) (by rw [HL3.out]; omega) (HG.out wx hb))
    clear hr hin
    generalize hx : turnI s zs = x at *
    have d7 : ¬ (7 : Int) < s := by omega
    have d0 : ¬ s < 0 := by omega
    go_wp2_with fail
    go_at_call 14; refine Calls.mono (KI.out s _ B1.out) ?_
    rintro e wq ⟨rfl, hq⟩; rw [hq, hti]; clear hq wq
    go_wp2_with fail
    go_at_call 15; refine Calls.mono (KS.out s _ B1.out) ?_
    rintro e wq ⟨rfl, hq⟩; rw [hq, hti]; clear hq wq
    go_wp2_with fail
    go_at_call 16; refine Calls.mono KR.out ?_
    rintro e w2 ⟨rfl, hb2⟩
    have B2 : Hid (Below w1.heap.size w1 w2) := hb2
    clear hb2 KR
    go_wp2_with fail
    go_loopw [6] (fun j wr => ∃ (h : Nat), h ≤ 3 ∧ j = .int .i64 h ∧ wr = w2) (fun j _ => 3 - (intOf j).toNat)
    case atStart => exact ⟨0, by omega, rfl, rfl⟩
    case round =>
      obtain ⟨h, hh, rfl, hw⟩ := hrel
      have hw' := hw.symm
      subst hw'
      clear hw
      by_cases hlt : h < 3
      · have i0' : (0 : Int) ≤ (h : Int) := by omega
        have i1' : (h : Int) < (zs.length : Int) := by rw [HL3.out]; omega
        have i3' : (h : Int) < 3 := by omega
        obtain ⟨_, _, he, _, _, hcell⟩ := HG.out w2 B2.out
        have hlz : h < zs.length := by rw [HL3.out]; exact hlt
        obtain ⟨b, off, ha, c0⟩ := hcell h hlz
        cases he; cases ha
        rw [Nat.zero_add] at c0
        have hg : zs.getD h 0 = zs[h]'hlz := by simp [List.getD_eq_getElem?_getD, List.getElem?_eq_getElem hlz]
        have hq := HH.out h hlt
        obtain ⟨y0, y1⟩ := HRI.out h hlz
        rw [hg] at hq
        have HQ : Hid _ := hq
        clear hcell hg hq
        generalize zs[h]'hlz = y at *
        obtain ⟨r, hr⟩ : ∃ r, hasB s (h : Int) = r := ⟨_, rfl⟩
        rw [hr] at HQ
        go_wp2_with fail
        (try go_at_call 17); refine (lcHas_any _ _ _ (by omega) (by omega) (by omega)).mono ?_
        rintro e wq ⟨rfl, hq⟩; rw [hq, HQ.out]; clear hq wq
        go_wp2_with fail
        (try go_at_call 17); refine (lcHas_any _ _ _ (by omega) (by omega) (by omega)).mono ?_
        rintro e wq ⟨rfl, hq⟩; rw [hq, hr]; clear hq wq
        cases r
        · go_wp2
          exact ⟨⟨h + 1, by omega, by simp, by simp⟩, by simp [intOf]; omega⟩
        · go_wp2
          exact ⟨⟨h + 1, by omega, by simp, by simp⟩, by simp [intOf]; omega⟩
      · have : h = 3 := by omega
        subst this
        go_wp2_with fail
        go_at_call 18; refine Calls.mono (KB.out _ B2.out) ?_
        rintro e w3 ⟨g', c', rfl, hb3, -, hg3⟩
        have KT : Hid _ := turnSet_any x hg3
        have HB3 : Hid (Below w.heap.size w w3) := Below.then (Below.then HB.out B2.out HB.out.size) hb3 (Below.then HB.out B2.out HB.out.size).size
        clear hb3 hg3
        have hbl : (backL zs).length = zs.length := by unfold backL; rw [backTo_len]
        go_wp2_with fail
        go_at_call 14; refine Calls.mono KT.out ?_
        rintro e wq ⟨rfl, hq⟩; rw [hq, HBK.out]; clear hq wq
        go_wp2
        go_ret
        exact ⟨rfl, HB3.out⟩
  · have HO : s < 0 ∨ 7 < s := by omega
    generalize hx : turnR s zs = x at *
    rcases HO with d0 | d7
    · go_wp2_with fail
      go_at_call 14; refine Calls.mono (KI.out s _ B1.out) ?_
      rintro e wq ⟨rfl, hq⟩; rw [hq, hx]; clear hq wq
      go_wp2_with fail
      go_at_call 15; refine Calls.mono (KS.out s _ B1.out) ?_
      rintro e wq ⟨rfl, hq⟩; rw [hq, hx]; clear hq wq
      go_wp2_with fail
      go_at_call 16; refine Calls.mono KR.out ?_
      rintro e w2 ⟨rfl, hb2⟩
      have B2 : Hid (Below w1.heap.size w1 w2) := hb2
      clear hb2
      go_wp2_with fail
      go_at_call 15; refine Calls.mono (KS.out s _ B2.out) ?_
      rintro e wq ⟨rfl, hq⟩; rw [hq, hx]; clear hq wq
      go_wp2
      go_ret
      exact ⟨rfl, Below.then HB.out B2.out HB.out.size⟩
    · have d0 : ¬ s < 0 := by omega
      go_wp2_with fail
      go_at_call 14; refine Calls.mono (KI.out s _ B1.out) ?_
      rintro e wq ⟨rfl, hq⟩; rw [hq, hx]; clear hq wq
      go_wp2_with fail
      go_at_call 15; refine Calls.mono (KS.out s _ B1.out) ?_
      rintro e wq ⟨rfl, hq⟩; rw [hq, hx]; clear hq wq
      go_wp2_with fail
      go_at_call 16; refine Calls.mono KR.out ?_
      rintro e w2 ⟨rfl, hb2⟩
      have B2 : Hid (Below w1.heap.size w1 w2) := hb2
      clear hb2
      go_wp2_with fail
      go_at_call 15; refine Calls.mono (KS.out s _ B2.out) ?_
      rintro e wq ⟨rfl, hq⟩; rw [hq, hx]; clear hq wq
      go_wp2
      go_ret
      exact ⟨rfl, Below.then HB.out B2.out HB.out.size⟩

set_option maxHeartbeats 4000000 in
set_option maxRecDepth 20000 in
theorem fnExactTurnSet_walk {nv : Value} {zs : List Int} (s : Int) (w : World) (hN : GRep (Value.int .i64) w nv zs) :
    Calls Try.prog 10 #[.int .i64 s, nv] w fun e w' => e = .returned (.bool true) ∧ Below w.heap.size w w' := by
  have HN : Hid (∀ wx, Below w.heap.size w wx → GRep (Value.int .i64) wx nv zs) := (show ∀ wx, _ from fun wx hb => hN.below hb)
  obtain ⟨na, nc, rfl, hnl, hnm, -⟩ := hN
  have B0 : Hid (Below w.heap.size w w) := Below.refl _ _
  by_cases hlv : (1048576 : Int) < (zs.length : Int)
  · go_enter Try.func10, Try.ntmps10
    go_wp2
    go_ret
    exact ⟨rfl, Below.refl _ _⟩
  have lz : zs.length ≤ 1048576 := by omega
  have CN : Hid (∀ wx, Below w.heap.size w wx → Calls Try.prog 39 #[.slice na zs.length nc] wx fun e w' => ∃ a c, e = .returned (.slice a zs.length c) ∧ Below wx.heap.size wx w' ∧ GRep (Value.int .i64) w' (.slice a zs.length c) zs) := (show ∀ wx, _ from fun wx hb => (toIntS_any (HN.out wx hb) lz).mono (by
    rintro e w' ⟨v', bs, rfl, hb, ho, -⟩
    have hr := ho.rep
    obtain ⟨a, c, rfl, -⟩ := id hr
    exact ⟨a, c, rfl, hb, hr⟩))
  clear hnm
  go_enter Try.func10, Try.ntmps10
  go_wp2_with fail
  go_at_call 39; refine Calls.mono (CN.out _ B0.out) ?_
  rintro e w1 ⟨a1, c1, rfl, hb1, g1⟩
  have KS : Hid _ := sTurnSet_any s g1
  have HB1 : Hid (Below w.heap.size w w1) := hb1
  clear hb1 g1
  generalize hx : turnR s zs = x at *
  go_wp2_with fail
  go_at_call 15; refine Calls.mono KS.out ?_
  rintro e wq ⟨rfl, hq⟩; rw [hq]; clear hq wq
  go_wp2_with fail
  go_at_call 39; refine Calls.mono (CN.out _ HB1.out) ?_
  rintro e w2 ⟨a2, c2, rfl, hb2, g2⟩
  have KI : Hid _ := turnSet_any s g2
  rw [hx] at KI
  have HG2 : Hid _ := g2
  have HB2 : Hid (Below w.heap.size w w2) := Below.then HB1.out hb2 HB1.out.size
  clear hb2 g2
  go_wp2_with fail
  go_at_call 14; refine Calls.mono KI.out ?_
  rintro e wq ⟨rfl, hq⟩; rw [hq]; clear hq wq
  go_wp2_with fail
  go_at_call 39; refine Calls.mono (CN.out _ HB2.out) ?_
  rintro e w3 ⟨a3, c3, rfl, hb3, g3⟩
  have KE : Hid _ := eqIntS_same (GRep.below hb3 HG2.out) g3
  have HB3 : Hid (Below w.heap.size w w3) := Below.then HB2.out hb3 HB2.out.size
  clear hb3 g3
  go_wp2_with fail
  go_at_call 40; refine Calls.mono KE.out ?_
  rintro e w4 ⟨rfl, hb4⟩
  have HB4 : Hid (Below w.heap.size w w4) := Below.then HB3.out hb4 HB3.out.size
  clear hb4
  go_wp2
  go_ret
  exact ⟨rfl, HB4.out⟩

end Go.Proofs.Ytfmhdjnambnglaa
