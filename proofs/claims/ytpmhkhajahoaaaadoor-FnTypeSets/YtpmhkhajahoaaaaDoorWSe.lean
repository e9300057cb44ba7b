/- In a fine program who trusts what is set trusts that it is done: the law, walked. -/
import Derived.Test.YtpmhkhajahoaaaaDoorTmd
import Derived.Test.YtpmhkhajahoaaaaDoorTss
import Derived.Test.YtpmhkhajahoaaaaDoorTks
import Derived.Test.YtpmhkhajahoaaaaDoorDty
import Derived.Test.YtpmhkhajahoaaaaDoorLcx
import Derived.Test.YtpmhkhajahoaaaaDoorRtx
import Derived.Test.YtpmhkhajahoaaaaDoorToC
namespace Go.Proofs.YtpmhkhajahoaaaaDoor
open Go.RowKit
set_option linter.unusedSimpArgs false
set_option linter.unusedVariables false
attribute [local go_sem] World.cell?_alloc_some
theorem lcHas_any (s h : Int) (w : World) (s0 : 0 ≤ s) (s7 : s ≤ 7) (h0 : 0 ≤ h) (h1 : h ≤ 2) :
    Calls Tryd.prog 25 #[.int .i64 s, .int .i64 h] w fun e w' => e = .returned (.bool (hasB s h)) ∧ w' = w := by
  rw [← has_mod s0]
  go_enter Tryd.func25, Tryd.ntmps25
  go_wp2
  go_ret
  exact ⟨rfl, rfl⟩

set_option maxHeartbeats 8000000 in
set_option maxRecDepth 20000 in
theorem fnTypeSets_walk (a0 : Option Addr) (len0 cap0 : Nat) (z0 : List Int) (w : World) (s0 s1 : Addr) (hg0 : w.cell? ⟨0, 0, none⟩ = some (.iface 152 (.pointer (some s0)))) (hg1 : w.cell? ⟨1, 0, none⟩ = some (.iface 152 (.pointer (some s1)))) (h0 : IsRow .u8 w a0 len0 cap0 z0) :
    Calls Tryd.prog 4 #[.slice a0 len0 cap0] w fun e w' => e = .returned (.bool true) ∧ Below w.heap.size w w' := by
  by_cases hl0 : (1048576 : Int) < (len0 : Int)
  · go_enter Tryd.func4, Tryd.ntmps4
    go_wp2
    go_ret
    exact ⟨rfl, Below.refl _ _⟩
  have C1 : Hid _ := drawTypeSets_any w a0 len0 cap0 z0 h0
  have HG0 : Hid _ := hg0
  have HG1 : Hid _ := hg1
  clear h0 hg0 hg1
  go_enter Tryd.func4, Tryd.ntmps4
  go_wp2_with fail
  go_at_call 20; refine Calls.mono C1.out ?_
  rintro e w1 ⟨lv, sv, ls, d, l, rfl, hLp, hRp, ll, cn, hb1⟩
  have hL := hLp.rep
  have hR := hRp.rep
  obtain ⟨la, lc, rfl, hll, hlm, -⟩ := id hL
  obtain ⟨sa, sc, hsv, hslc, hscm, -⟩ := id hR
  subst hsv
  have hR : Rep w1 (d + 1) (.slice sa l.length sc) (l : List (Pay × Tr d × Tr d)) := hR
  have hlc8 : l.length ≤ 400 := Nat.le_trans (show l.length ≤ (cnt (d + 1) (l : List (Pay × Tr d × Tr d))) from ln_le_cnt (d + 1) (l : List (Pay × Tr d × Tr d))) cn
  have A : Below w1.heap.size w1 (w1.alloc (.cells #[.slice la ls.length lc, .slice sa l.length sc] 26)) := (Below.refl _ _).alloc (Nat.le_refl _) _
  have G2 := C2.new w1 (.slice la ls.length lc) (.slice sa l.length sc) 26
  have HLR : Hid (∀ wz, Below w1.heap.size w1 wz → LRep wz (.slice la ls.length lc) ls ∧ Rep wz (d + 1) (.slice sa l.length sc) (l : List (Pay × Tr d × Tr d)) ∧ wz.cell? ⟨0, 0, none⟩ = some (.iface 152 (.pointer (some s0))) ∧ wz.cell? ⟨1, 0, none⟩ = some (.iface 152 (.pointer (some s1)))) := (show ∀ wz, _ from fun wz hb => ⟨hL.below hb, hR.below hb, cell_later hb (cell_later hb1 HG0.out), cell_later hb (cell_later hb1 HG1.out)⟩)
  have HB1 : Hid (Below w.heap.size w w1) := hb1
  obtain ⟨ok, hok⟩ : ∃ x, (progB ls (d + 1) (l : List (Pay × Tr d × Tr d)) && !(whyR ls (d + 1) (l : List (Pay × Tr d × Tr d))).2) = x := ⟨_, rfl⟩
  have HOKV : Hid _ := hok
  have HT : Hid (∀ wz, Below w1.heap.size w1 wz → Calls Tryd.prog 27 #[.agg #[.slice la ls.length lc, .slice sa l.length sc]] wz fun e w' => e = .returned (.bool ok) ∧ Below wz.heap.size wz w') := (show ∀ wz, _ from fun wz hb => by
    rw [← hok]; exact typeOk_any (HLR.out wz hb).1 (HLR.out wz hb).2.1 (HLR.out wz hb).2.2.1 (HLR.out wz hb).2.2.2)
  have HS : Hid (∀ wz, Below w1.heap.size w1 wz → Calls Tryd.prog 24 #[.agg #[.slice la ls.length lc, .slice sa l.length sc]] wz fun e w' => e = .returned (.bool ok) ∧ Below wz.heap.size wz w') := (show ∀ wz, _ from fun wz hb => by
    rw [← hok]; exact sTypeOk_any (HLR.out wz hb).1 (HLR.out wz hb).2.1 (Nat.le_trans cn (by decide)))
  obtain ⟨pb, hpb⟩ : ∃ x, progB ls (d + 1) (l : List (Pay × Tr d × Tr d)) = x := ⟨_, rfl⟩
  have HPB : Hid _ := hpb
  have HP : Hid (∀ wz, Below w1.heap.size w1 wz → Calls Tryd.prog 18 #[.agg #[.slice la ls.length lc, .slice sa l.length sc]] wz fun e w' => e = .returned (.bool pb) ∧ Below wz.heap.size wz w') := (show ∀ wz, _ from fun wz hb => by
    rw [← hpb]; exact sProgOk_any (HLR.out wz hb).1 (HLR.out wz hb).2.1 (Nat.le_trans cn (by decide)))
  generalize hw2 : w1.alloc (.cells #[.slice la ls.length lc, .slice sa l.length sc] 26) = w2 at A G2
  have HW2 : Hid _ := hw2
  have B_w2 : Hid (Below w1.heap.size w1 w2) := A
  have G_w2 : Hid (C2 w2 w1.heap.size (.slice la ls.length lc) (.slice sa l.length sc)) := G2
  clear hLp hRp hb1 C1 A G2 hw2 hL hR hok hpb
  have HSE0 := fun (wz : World) (hb : Below w1.heap.size w1 wz) => typeSets_any (HLR.out wz hb).1 (HLR.out wz hb).2.1 (HLR.out wz hb).2.2.1 (HLR.out wz hb).2.2.2
  have HSS0 := fun (wz : World) (hb : Below w1.heap.size w1 wz) => sTypeSets_any (HLR.out wz hb).1 (HLR.out wz hb).2.1 (Nat.le_trans cn (by decide))
  have HAT0 := fun (wz : World) (hb : Below w1.heap.size w1 wz) => typeAt_any (HLR.out wz hb).1 (HLR.out wz hb).2.1 (HLR.out wz hb).2.2.1 (HLR.out wz hb).2.2.2
  have hfact : ok = true → ((atR ls (d + 1) (l : List (Pay × Tr d × Tr d))).length = (seR ls (d + 1) (l : List (Pay × Tr d × Tr d))).length ∧ (∀ x ∈ seR ls (d + 1) (l : List (Pay × Tr d × Tr d)), 0 ≤ x ∧ x ≤ 7) ∧ (∀ a ∈ atR ls (d + 1) (l : List (Pay × Tr d × Tr d)), okL a) ∧ ∀ i (h1 : i < (seR ls (d + 1) (l : List (Pay × Tr d × Tr d))).length) (h2 : i < (atR ls (d + 1) (l : List (Pay × Tr d × Tr d))).length) (h : Int), hasB (seR ls (d + 1) (l : List (Pay × Tr d × Tr d)))[i] h = true → hasB (atR ls (d + 1) (l : List (Pay × Tr d × Tr d)))[i].2 h = true) := by
    intro hk
    have hok := HOKV.out
    rw [hk] at hok
    have hpb : progB ls (d + 1) (l : List (Pay × Tr d × Tr d)) = true := by
      cases hq : progB ls (d + 1) (l : List (Pay × Tr d × Tr d)) with
      | false => rw [okR_no hq] at hok; cases hok
      | true => rfl
    have e1 : atR ls (d + 1) (l : List (Pay × Tr d × Tr d)) = atT ls (d + 1) (l : List (Pay × Tr d × Tr d)) topL := by unfold atR; rw [hpb]; rfl
    have e2 : seR ls (d + 1) (l : List (Pay × Tr d × Tr d)) = setsL ls (d + 1) (l : List (Pay × Tr d × Tr d)) := by unfold seR; rw [hpb]; rfl
    rw [e1, e2]
    refine ⟨(atT_length _ _ _ _).trans (setsL_length _ _ _).symm, fun x hx => ?_, atT_ok (progB_labs hpb) _ _ _ topL_ok, fun i h1 h2 h => sets_fine hok i h1 h2 h⟩
    obtain ⟨y, -, hy⟩ := List.mem_map.1 hx
    rw [← hy]; exact setX_bd (progB_labs hpb) y
  have hxl : (seR ls (d + 1) (l : List (Pay × Tr d × Tr d))).length ≤ 400 := by
    unfold seR; split
    · exact Nat.le_trans (Nat.le_of_eq (setsL_length ls (d + 1) (l : List (Pay × Tr d × Tr d)))) cn
    · simp
  generalize seR ls (d + 1) (l : List (Pay × Tr d × Tr d)) = xs at HSE0 HSS0 hfact hxl
  generalize atR ls (d + 1) (l : List (Pay × Tr d × Tr d)) = ys at HAT0 hfact
  have HSE : Hid _ := HSE0
  have HSS : Hid _ := HSS0
  have HAT : Hid _ := HAT0
  have HFT : Hid _ := hfact
  clear HSE0 HSS0 HAT0 hfact
  go_wp2_with fail
  rw [HW2.out]
  clear HW2
  go_at_call 21; refine Calls.mono (HSE.out _ B_w2.out) ?_
  rintro e w3 ⟨gv, rfl, hb_w3, hg3⟩
  obtain ⟨ga, gc, rfl⟩ := rowt_slice hg3
  obtain ⟨bg, hgo, -⟩ := row_gown hg3
  have HG3 : Hid (GRep (Value.int .i64) w3 (.slice ga xs.length gc) xs) := hgo.rep
  clear hg3 hgo
  have B_w3 : Hid (Below w1.heap.size w1 w3) := Below.then B_w2.out hb_w3 B_w2.out.size
  have G_w3 : Hid (C2 w3 w1.heap.size (.slice la ls.length lc) (.slice sa l.length sc)) := G_w2.out.same (hb_w3.block _ (World.block_lt_of_cell? _ _ G_w2.out.1.1))
  clear hb_w3
  try clear p0 p1
  obtain ⟨⟨p0, p1⟩, -⟩ := id G_w3.out
  go_wp2_with fail
  go_at_call 23; refine Calls.mono (HSS.out _ B_w3.out) ?_
  rintro e w4 ⟨qv, rfl, hb_w4, hq4⟩
  obtain ⟨qa, qc, rfl⟩ := rowt_slice hq4
  obtain ⟨bq, hqo, -⟩ := row_gown hq4
  have HG4 : Hid (GRep (Value.int .i64) w4 (.slice ga xs.length gc) xs) := GRep.below hb_w4 HG3.out
  have CL4 := lcInts_any HG4.out hqo.rep
  rw [decide_eq_true (rfl : xs = xs)] at CL4
  have HCL4 : Hid _ := CL4
  clear hq4 hqo CL4 HG3
  have B_w4 : Hid (Below w1.heap.size w1 w4) := Below.then B_w3.out hb_w4 B_w3.out.size
  have G_w4 : Hid (C2 w4 w1.heap.size (.slice la ls.length lc) (.slice sa l.length sc)) := G_w3.out.same (hb_w4.block _ (World.block_lt_of_cell? _ _ G_w3.out.1.1))
  clear hb_w4
  try clear p0 p1
  obtain ⟨⟨p0, p1⟩, -⟩ := id G_w4.out
  go_wp2_with fail
  go_at_call 22; refine Calls.mono (HCL4.out) ?_
  rintro e w5 ⟨rfl, hb_w5⟩
  have HG5 : Hid (GRep (Value.int .i64) w5 (.slice ga xs.length gc) xs) := GRep.below hb_w5 HG4.out
  clear HG4 HCL4
  have B_w5 : Hid (Below w1.heap.size w1 w5) := Below.then B_w4.out hb_w5 B_w4.out.size
  have G_w5 : Hid (C2 w5 w1.heap.size (.slice la ls.length lc) (.slice sa l.length sc)) := G_w4.out.same (hb_w5.block _ (World.block_lt_of_cell? _ _ G_w4.out.1.1))
  clear hb_w5
  try clear p0 p1
  obtain ⟨⟨p0, p1⟩, -⟩ := id G_w5.out
  go_wp2_with fail
  go_at_call 24; refine Calls.mono (HS.out _ B_w5.out) ?_
  rintro e w6 ⟨rfl, hb_w6⟩
  have HG6 : Hid (GRep (Value.int .i64) w6 (.slice ga xs.length gc) xs) := GRep.below hb_w6 HG5.out
  clear HG5
  have B_w6 : Hid (Below w1.heap.size w1 w6) := Below.then B_w5.out hb_w6 B_w5.out.size
  have G_w6 : Hid (C2 w6 w1.heap.size (.slice la ls.length lc) (.slice sa l.length sc)) := G_w5.out.same (hb_w6.block _ (World.block_lt_of_cell? _ _ G_w5.out.1.1))
  clear hb_w6
  try clear p0 p1
  obtain ⟨⟨p0, p1⟩, -⟩ := id G_w6.out
  cases ok
  · go_wp2_with fail
    go_at_call 23; refine Calls.mono (HSS.out _ B_w6.out) ?_
    rintro e w7 ⟨qv, rfl, hb_w7, hq7⟩
    obtain ⟨qa7, qc7, rfl⟩ := rowt_slice hq7
    obtain ⟨bq7, hqo7, -⟩ := row_gown hq7
    have CL7 := lcInts_any (GRep.below hb_w7 HG6.out) hqo7.rep
    rw [decide_eq_true (rfl : xs = xs)] at CL7
    have HCL7 : Hid _ := CL7
    clear hq7 hqo7 CL7
    have B_w7 : Hid (Below w1.heap.size w1 w7) := Below.then B_w6.out hb_w7 B_w6.out.size
    have G_w7 : Hid (C2 w7 w1.heap.size (.slice la ls.length lc) (.slice sa l.length sc)) := G_w6.out.same (hb_w7.block _ (World.block_lt_of_cell? _ _ G_w6.out.1.1))
    clear hb_w7
    try clear p0 p1
    obtain ⟨⟨p0, p1⟩, -⟩ := id G_w7.out
    go_wp2_with fail
    go_at_call 22; refine Calls.mono (HCL7.out) ?_
    rintro e w8 ⟨rfl, hb_w8⟩
    have B_w8 : Hid (Below w1.heap.size w1 w8) := Below.then B_w7.out hb_w8 B_w7.out.size
    have G_w8 : Hid (C2 w8 w1.heap.size (.slice la ls.length lc) (.slice sa l.length sc)) := G_w7.out.same (hb_w8.block _ (World.block_lt_of_cell? _ _ G_w7.out.1.1))
    clear hb_w8
    try clear p0 p1
    obtain ⟨⟨p0, p1⟩, -⟩ := id G_w8.out
    go_wp2
    go_ret
    exact ⟨rfl, HB1.out.trans (B_w8.out.mono HB1.out.size)⟩
  · obtain ⟨hll2, hxb, hao, hfn⟩ := HFT.out rfl
    have HXB : Hid _ := hxb
    have HAO : Hid _ := hao
    have HFN : Hid _ := hfn
    have HLL : Hid _ := hll2
    clear hll2 hxb hao hfn
    go_wp2_with fail
    go_at_call 15; refine Calls.mono (HAT.out _ B_w6.out) ?_
    rintro e w7 ⟨av, rfl, hb_w7, ha7⟩
    obtain ⟨aa, ac, rfl⟩ := rowt_slice ha7
    obtain ⟨ba, hao7, -⟩ := row_pown ha7
    obtain ⟨_, _, ea, -, -, hac⟩ := hao7.rep
    cases ea
    obtain ⟨_, _, eg, -, -, hgc⟩ := GRep.below hb_w7 HG6.out
    cases eg
    have HAC : Hid _ := hac
    have HGC : Hid _ := hgc
    clear ha7 hao7 hac hgc
    have B_w7 : Hid (Below w1.heap.size w1 w7) := Below.then B_w6.out hb_w7 B_w6.out.size
    have G_w7 : Hid (C2 w7 w1.heap.size (.slice la ls.length lc) (.slice sa l.length sc)) := G_w6.out.same (hb_w7.block _ (World.block_lt_of_cell? _ _ G_w6.out.1.1))
    clear hb_w7
    try clear p0 p1
    obtain ⟨⟨p0, p1⟩, -⟩ := id G_w7.out
    have hx64 : (xs.length : Int) ≤ 400 := by omega
    clear p0 p1
    go_wp2
    go_loopw [6] (fun j wr => ∃ (i : Nat), i ≤ xs.length ∧ j = .int .i64 i ∧ Below w7.heap.size w7 wr) (fun j _ => xs.length - (intOf j).toNat)
    case atStart => exact ⟨0, by omega, rfl, Below.refl _ _⟩
    case round =>
      obtain ⟨i, hi, rfl, hB⟩ := hrel
      have HB : Hid _ := hB
      have i0' : (0 : Int) ≤ (i : Int) := by omega
      clear hB
      by_cases hlt : i < xs.length
      · have i1' : (i : Int) < (xs.length : Int) := by omega
        have hlt2 : i < ys.length := by have := HLL.out; omega
        have i2' : (i : Int) < (ys.length : Int) := by omega
        obtain ⟨b1, o1, rfl, k0⟩ := HGC.out i hlt
        obtain ⟨b2, o2, rfl, k2, k3⟩ := HAC.out i hlt2
        have hxb := HXB.out _ (List.getElem_mem hlt)
        have hyo := (HAO.out _ (List.getElem_mem hlt2)).2
        have HFI : Hid (∀ h : Int, hasB xs[i] h = true → hasB ys[i].2 h = true) := (show ∀ h : Int, _ from fun h => HFN.out i hlt hlt2 h)
        have HK0 : Hid _ := k0
        have HK3 : Hid _ := k3
        generalize xs[i] = x at HFI HK0 hxb
        generalize ys[i] = y at HFI HK3 hyo
        clear k0 k2 k3
        obtain ⟨wo, rfl⟩ : ∃ x, x = wr := ⟨_, rfl⟩
        have HWR : Hid (Below wo.heap.size wo wo) := Below.refl _ _
        go_wp2
        go_loopw [7] (fun j wq => ∃ (h : Nat), h ≤ 3 ∧ j = .int .i64 h ∧ Below wo.heap.size wo wq) (fun j _ => 3 - (intOf j).toNat)
        case atStart => exact ⟨0, by omega, rfl, HWR.out⟩
        case round =>
          obtain ⟨wq, rfl⟩ : ∃ x, x = wr := ⟨_, rfl⟩
          obtain ⟨h, hh, rfl, hB2⟩ := hrel
          have HB2 : Hid _ := hB2
          have h0' : (0 : Int) ≤ (h : Int) := by omega
          have k0 := cell_later hB2 (cell_later HB.out HK0.out)
          have k3 := cell_later hB2 (cell_later HB.out HK3.out)
          by_cases hlt3 : h < 3
          · have h1' : (h : Int) < 3 := by omega
            have CH1 : Hid _ := fun wz => lcHas_any x (h : Int) wz hxb.1 hxb.2 h0' (by omega)
            have CH2 : Hid _ := fun wz => lcHas_any y.2 (h : Int) wz hyo.1 hyo.2 h0' (by omega)
            have hfi := HFI.out (h : Int)
            generalize hasB x (h : Int) = b1' at CH1 hfi
            generalize hasB y.2 (h : Int) = b2' at CH2 hfi
            clear hB2
            go_wp2_with fail
            go_at_call 25; refine Calls.mono (CH1.out _) ?_
            rintro e wx ⟨rfl, hwx⟩
            subst wx
            cases b1'
            · clear hfi k0 k3
              go_wp2
              exact ⟨⟨h + 1, by omega, by simp, HB2.out⟩, by simp [intOf]; omega⟩
            · have hb2 := hfi rfl
              subst hb2
              clear hfi
              go_wp2_with fail
              go_at_call 25; refine Calls.mono (CH2.out _) ?_
              rintro e wx ⟨rfl, hwx⟩
              subst wx
              clear k0 k3
              go_wp2
              exact ⟨⟨h + 1, by omega, by simp, HB2.out⟩, by simp [intOf]; omega⟩
          · have : h = 3 := by omega
            subst this
            have HBF : Hid (Below w7.heap.size w7 wq) := Below.then HB.out hB2 HB.out.size
            clear hB2 k0 k3
            go_wp2
            exact ⟨⟨i + 1, by omega, by simp, HBF.out⟩, by simp [intOf]; omega⟩
      · have hie : i = xs.length := by omega
        subst hie
        have HBF : Hid (Below w1.heap.size w1 wr) := Below.then B_w7.out HB.out B_w7.out.size
        go_wp2
        exact bodyPost_ret (v := .bool true) (by simp [results, Tryd.results4, go_sem]) rfl ⟨rfl, HB1.out.trans (HBF.out.mono HB1.out.size)⟩
end Go.Proofs.YtpmhkhajahoaaaaDoor
