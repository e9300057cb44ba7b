/- Nobody learns what they may not know: the law, walked. -/
import Derived.Test.YtepacahfpbedoaaPrl
import Derived.Test.YtepacahfpbedoaaLcx
import Derived.Test.YtepacahfpbedoaaLco
namespace Go.Proofs.Ytepacahfpbedoaa
open Go.RowKit
set_option linter.unusedSimpArgs false
set_option linter.unusedVariables false
attribute [local go_sem ↓] Go.wp_at_zero Go.wp_at_succ
attribute [local go_sem] World.cell?_alloc_some

theorem hid_kn (ls : List (Int × Int)) (h : Nat) (hh : h < 3) : ∀ i (h1 : i < ls.length), (knowL ls h).getD i true = (fun a : Int × Int => hasB a.1 (h : Int)) ls[i] := by
  intro i h1
  rw [List.getD_eq_getElem?_getD, List.getElem?_eq_getElem (by simp [knowL]; exact h1)]
  simp [knowL, hosB]
  omega

set_option maxHeartbeats 8000000 in
set_option maxRecDepth 20000 in
theorem fnTypeHides_walk (a0 : Option Addr) (len0 cap0 : Nat) (z0 : List Int) (a1 : Option Addr) (len1 cap1 : Nat) (z1 : List Int) (w : World) (h0 : IsRow .u8 w a0 len0 cap0 z0) (h1 : IsRow .u8 w a1 len1 cap1 z1) :
    Calls Try.prog 6 #[.slice a0 len0 cap0, .slice a1 len1 cap1] w fun e w' => e = .returned (.bool true) ∧ Below w.heap.size w w' := by
  by_cases hl0 : (1048576 : Int) < (len0 : Int)
  · go_enter Try.func6, Try.ntmps6
    go_wp2
    go_ret
    exact ⟨rfl, Below.refl _ _⟩
  by_cases hl1 : (1048576 : Int) < (len1 : Int)
  · go_enter Try.func6, Try.ntmps6
    go_wp2
    go_ret
    exact ⟨rfl, Below.refl _ _⟩
  have hrow1 : len1 ≤ maxLen := (by unfold maxLen; omega)
  have C1 : Hid _ := drawRunOf_any w a0 len0 cap0 z0 h0
  clear h0 h1
  go_enter Try.func6, Try.ntmps6
  go_wp2_with fail
  go_at_call 16; refine Calls.mono C1.out ?_
  rintro e w1 ⟨lv, sv, nv, ls, d, l, zs, rfl, hLp, hRp, ⟨hN, ad, nc, rfl, -⟩, ll, cn, hb1⟩
  have hL := hLp.rep
  have hR := hRp.rep
  obtain ⟨la, lc, rfl, -⟩ := id hL
  obtain ⟨sa, sc, rfl⟩ := hR.slice
  have HLR : Hid (∀ wz, Below w1.heap.size w1 wz → LRep wz (.slice la ls.length lc) ls ∧ Rep wz (d + 1) (.slice sa (ln (d + 1) (l : List (Pay × Tr d × Tr d))) sc) (l : List (Pay × Tr d × Tr d)) ∧ GRep (Value.int .i64) wz (.slice (some ad) zs.length nc) zs) := (show ∀ wz, _ from fun wz hb => ⟨hL.below hb, hR.below hb, hN.below hb⟩)
  have HB1 : Hid (Below w.heap.size w w1) := hb1
  have A : Below w1.heap.size w1 (w1.alloc (.cells #[.slice la ls.length lc, .slice sa (ln (d + 1) (l : List (Pay × Tr d × Tr d))) sc] 26)) := (Below.refl _ _).alloc (Nat.le_refl _) _
  have G2 := C2.new w1 (.slice la ls.length lc) (.slice sa (ln (d + 1) (l : List (Pay × Tr d × Tr d))) sc) 26
  generalize hw2 : w1.alloc (.cells #[.slice la ls.length lc, .slice sa (ln (d + 1) (l : List (Pay × Tr d × Tr d))) sc] 26) = w2 at A G2
  have HW2 : Hid _ := hw2
  have HA : Hid (Below w1.heap.size w1 w2) := A
  have K2 : Hid _ := sRunOf_any (HLR.out w2 A).1 (HLR.out w2 A).2.1 (by omega) (HLR.out w2 A).2.2
  have HG2 : Hid (C2 w2 w1.heap.size (.slice la ls.length lc) (.slice sa (ln (d + 1) (l : List (Pay × Tr d × Tr d))) sc)) := G2
  obtain ⟨nb, hnb⟩ : ∃ nb, numsB ls (d + 1) (l : List (Pay × Tr d × Tr d)) zs = nb := ⟨_, rfl⟩
  obtain ⟨rs, hrs⟩ : ∃ rs, runS ls (d + 1) (l : List (Pay × Tr d × Tr d)) zs = rs := ⟨_, rfl⟩
  rw [hnb, hrs] at K2
  have HNB : Hid _ := hnb
  have HRS : Hid _ := hrs
  clear hLp hRp hb1 C1 A G2 hw2 hnb hrs hL hR hN
  go_wp2_with fail
  rw [HW2.out]
  go_at_call 17; refine Calls.mono K2.out ?_
  rintro e w3 ⟨vya, vyb, vyc, rfl, hb3, r3⟩
  obtain ⟨ya, yac, ha⟩ := rowg_slice r3.n
  obtain ⟨yb, ybc, hb⟩ := rowg_slice r3.ws
  obtain ⟨yc, ycc, hc⟩ := rowg_slice r3.ss
  subst ha hb hc
  have HB3 : Hid (Below w1.heap.size w1 w3) := Below.then HA.out hb3 HA.out.size
  have z2 : w1.heap.size < w2.heap.size := C2.lt' HG2.out
  have z3 : w1.heap.size < w3.heap.size := by have := hb3.size; omega
  have G3 := HG2.out.same (hb3.block _ z2)
  have HG3 : Hid (C2 w3 w1.heap.size (.slice la ls.length lc) (.slice sa (ln (d + 1) (l : List (Pay × Tr d × Tr d))) sc)) := G3
  have HY3 : Hid (GRep (Value.int .i64) w3 (.slice ya rs.n.length yac) rs.n ∧ LRep w3 (.slice yb rs.ws.length ybc) rs.ws ∧ LRep w3 (.slice yc rs.ss.length ycc) rs.ss) := r3.reps
  have A4 : Below w3.heap.size w3 (w3.alloc (.cells #[.slice ya rs.n.length yac, .slice yb rs.ws.length ybc, .slice yc rs.ss.length ycc] 44)) := (Below.refl _ _).alloc (Nat.le_refl _) _
  have G4 := C3.new w3 (.slice ya rs.n.length yac) (.slice yb rs.ws.length ybc) (.slice yc rs.ss.length ycc) 44
  generalize hw4 : w3.alloc (.cells #[.slice ya rs.n.length yac, .slice yb rs.ws.length ybc, .slice yc rs.ss.length ycc] 44) = w4 at A4 G4
  have HW4 : Hid _ := hw4
  have HG4 : Hid (C3 w4 w3.heap.size (.slice ya rs.n.length yac) (.slice yb rs.ws.length ybc) (.slice yc rs.ss.length ycc)) := G4
  have HA4 : Hid (Below w3.heap.size w3 w4) := A4
  have HB4 : Hid (Below w1.heap.size w1 w4) := Below.then HB3.out A4 HB3.out.size
  have K4 : Hid _ := runOf_any (HLR.out w4 HB4.out).1 (HLR.out w4 HB4.out).2.1 (HLR.out w4 HB4.out).2.2
  rw [HNB.out, HRS.out] at K4
  obtain ⟨⟨p0, p1⟩, -⟩ := G3
  clear hb3 K2 HG2 HA HW2 z2 r3 A4 G4 hw4
  go_wp2_with fail
  rw [HW4.out]
  go_at_call 18; refine Calls.mono K4.out ?_
  rintro e w5 ⟨vxa, vxb, vxc, rfl, hb5, r5⟩
  obtain ⟨xa, xac, ha⟩ := rowg_slice r5.n
  obtain ⟨xb, xbc, hb⟩ := rowg_slice r5.ws
  obtain ⟨xc, xcc, hc⟩ := rowg_slice r5.ss
  subst ha hb hc
  clear p0 p1
  have HB45 : Hid (Below w4.heap.size w4 w5) := hb5
  have HB35 : Hid (Below w3.heap.size w3 w5) := Below.then HA4.out hb5 HA4.out.size
  have HB5 : Hid (Below w1.heap.size w1 w5) := Below.then HB4.out hb5 HB4.out.size
  have HX5 : Hid (GRep (Value.int .i64) w5 (.slice xa rs.n.length xac) rs.n ∧ LRep w5 (.slice xb rs.ws.length xbc) rs.ws ∧ LRep w5 (.slice xc rs.ss.length xcc) rs.ss) := r5.reps
  have G5 : C3 w5 w3.heap.size (.slice ya rs.n.length yac) (.slice yb rs.ws.length ybc) (.slice yc rs.ss.length ycc) := HG4.out.below hb5
  have HG5 : Hid (C3 w5 w3.heap.size (.slice ya rs.n.length yac) (.slice yb rs.ws.length ybc) (.slice yc rs.ss.length ycc)) := G5
  have z5 : w3.heap.size < w5.heap.size := C3.lt G5
  have A6 : Below w5.heap.size w5 (w5.alloc (.cells #[.slice xa rs.n.length xac, .slice xb rs.ws.length xbc, .slice xc rs.ss.length xcc] 44)) := (Below.refl _ _).alloc (Nat.le_refl _) _
  have G6 := C3.new w5 (.slice xa rs.n.length xac) (.slice xb rs.ws.length xbc) (.slice xc rs.ss.length xcc) 44
  generalize hw6 : w5.alloc (.cells #[.slice xa rs.n.length xac, .slice xb rs.ws.length xbc, .slice xc rs.ss.length xcc] 44) = w6 at A6 G6
  have HW6 : Hid _ := hw6
  have HG6 : Hid (C3 w6 w5.heap.size (.slice xa rs.n.length xac) (.slice xb rs.ws.length xbc) (.slice xc rs.ss.length xcc)) := G6
  have HA6 : Hid (Below w5.heap.size w5 w6) := A6
  have HB6 : Hid (Below w1.heap.size w1 w6) := Below.then HB5.out A6 HB5.out.size
  have HB36 : Hid (Below w3.heap.size w3 w6) := Below.then HB35.out A6 HB35.out.size
  have K6 : Hid _ := lcRun_same (HX5.out.1.below A6) (HX5.out.2.1.below A6) (HX5.out.2.2.below A6) (HY3.out.1.below HB36.out) (HY3.out.2.1.below HB36.out) (HY3.out.2.2.below HB36.out)
  obtain ⟨⟨y0, y1, y2⟩, -⟩ := G5
  clear hb5 K4 HW4 r5 A6 G6 hw6 HB35
  cases nb
  · go_wp2_with fail
    rw [HW6.out]
    go_at_call 19; refine Calls.mono K6.out ?_
    rintro e w7 ⟨rfl, hb7⟩
    have HB7 : Hid (Below w1.heap.size w1 w7) := Below.then HB6.out hb7 HB6.out.size
    have HB57 : Hid (Below w5.heap.size w5 w7) := Below.then HA6.out hb7 HA6.out.size
    have HB37 : Hid (Below w3.heap.size w3 w7) := Below.then HB36.out hb7 HB36.out.size
    obtain ⟨⟨x0, x1, x2⟩, -⟩ := C3.below HG6.out hb7
    obtain ⟨⟨v0, v1, v2⟩, -⟩ := C3.below HG5.out HB57.out
    have K7 : Hid _ := lcRun_same (HX5.out.1.below HB57.out) (HX5.out.2.1.below HB57.out) (HX5.out.2.2.below HB57.out) (HY3.out.1.below HB37.out) (HY3.out.2.1.below HB37.out) (HY3.out.2.2.below HB37.out)
    clear hb7 y0 y1 y2 K6
    go_wp2_with fail
    go_at_call 19; refine Calls.mono K7.out ?_
    rintro e w8 ⟨rfl, hb8⟩
    have HB8 : Hid (Below w.heap.size w w8) := Below.then HB1.out (Below.then HB7.out hb8 HB7.out.size) HB1.out.size
    clear hb8 x0 x1 x2 v0 v1 v2 K7
    go_wp2
    go_ret
    exact ⟨rfl, HB8.out⟩
  go_wp2_with fail
  rw [HW6.out]
  go_at_call 19; refine Calls.mono K6.out ?_
  rintro e w7 ⟨rfl, hb7⟩
  have HB7 : Hid (Below w.heap.size w w7) := Below.then HB1.out (Below.then HB6.out hb7 HB6.out.size) HB1.out.size
  have HB57 : Hid (Below w5.heap.size w5 w7) := Below.then HA6.out hb7 HA6.out.size
  have HB17 : Hid (Below w1.heap.size w1 w7) := Below.then HB6.out hb7 HB6.out.size
  have HR7 : Hid (Ran w7 w1.heap.size w5.heap.size (.slice la ls.length lc) (.slice sa (ln (d + 1) (l : List (Pay × Tr d × Tr d))) sc) (.slice (some ad) zs.length nc) (.slice xa rs.n.length xac) (.slice xb rs.ws.length xbc) (.slice xc rs.ss.length xcc) ls d l zs rs) := ⟨(HLR.out w7 HB17.out).1, (HLR.out w7 HB17.out).2.1, (HLR.out w7 HB17.out).2.2, HG3.out.same ((HB57.out.block _ (by omega)).trans ((HB45.out.block _ (Nat.lt_of_lt_of_le z3 HA4.out.size)).trans (HA4.out.block _ z3))), C3.below HG6.out hb7, HX5.out.1.below HB57.out, HX5.out.2.1.below HB57.out, HX5.out.2.2.below HB57.out⟩
  have HY7 : Hid (C3 w7 w3.heap.size (.slice ya rs.n.length yac) (.slice yb rs.ws.length ybc) (.slice yc rs.ss.length ycc) ∧ GRep (Value.int .i64) w7 (.slice ya rs.n.length yac) rs.n ∧ LRep w7 (.slice yb rs.ws.length ybc) rs.ws ∧ LRep w7 (.slice yc rs.ss.length ycc) rs.ss) := ⟨HG5.out.below HB57.out, HY3.out.1.below (Below.then HB36.out hb7 HB36.out.size), HY3.out.2.1.below (Below.then HB36.out hb7 HB36.out.size), HY3.out.2.2.below (Below.then HB36.out hb7 HB36.out.size)⟩
  have HDO : Hid (rs = doT (d + 1) (l : List (Pay × Tr d × Tr d)) ⟨zs, [], []⟩) := (show rs = _ by rw [← HRS.out]; unfold runS; rw [HNB.out]; rfl)
  clear hb7 y0 y1 y2 K6 HW6 HG6 HA6 HB6 HB36 HG5 HB57 HB17 HX5 HY3 HG4 HA4 HB45 HB4 HB3 HG3 HLR HB1 HB5 HRS z3 z5
  obtain ⟨hpb, hzl, hten⟩ := numsB_parts HNB.out
  obtain ⟨hls4, hlabs, hst, hcnt⟩ := progB_parts hpb
  have hz4 : zs.length ≤ 4 := by omega
  have hz1 : 0 < zs.length := by omega
  have HST : Hid _ := hst
  have HLABS : Hid _ := hlabs
  have HTEN : Hid _ := hten
  have HZL : Hid _ := hzl
  have HPB : Hid _ := hpb
  have HCN : Hid _ := hcnt
  have hok := doT_ok (d + 1) (l : List (Pay × Tr d × Tr d)) ls.length 3 ⟨zs, [], []⟩ hst hzl hten
  rw [← HDO.out] at hok
  have HOK : Hid _ := hok
  have HLX : Hid (rs.ws.length ≤ 8 ∧ rs.ss.length ≤ 8) := (show rs.ws.length ≤ 8 ∧ rs.ss.length ≤ 8 by
    have := hok.2.2.1; have := hok.2.2.2; simp at *; omega)
  have KT : Hid _ := sTypeOk_any HR7.out.L HR7.out.T (by omega)
  obtain ⟨ty, hty⟩ : ∃ ty, (progB ls (d + 1) (l : List (Pay × Tr d × Tr d)) && !(whyR ls (d + 1) (l : List (Pay × Tr d × Tr d))).2) = ty := ⟨_, rfl⟩
  rw [hty] at KT
  have HTY : Hid _ := hty
  obtain ⟨⟨kp0, kp1⟩, -⟩ := HR7.out.p
  clear hok hpb hcnt hzl hten hlabs hst hty
  go_wp2_with fail
  go_at_call 22; refine Calls.mono KT.out ?_
  rintro e wt ⟨rfl, hbt⟩
  have HRt : Hid (Ran wt w1.heap.size w5.heap.size (.slice la ls.length lc) (.slice sa (ln (d + 1) (l : List (Pay × Tr d × Tr d))) sc) (.slice (some ad) zs.length nc) (.slice xa rs.n.length xac) (.slice xb rs.ws.length xbc) (.slice xc rs.ss.length xcc) ls d l zs rs) := HR7.out.below hbt
  have HBt : Hid (Below w.heap.size w wt) := Below.then HB7.out hbt HB7.out.size
  have HYt : Hid (C3 wt w3.heap.size (.slice ya rs.n.length yac) (.slice yb rs.ws.length ybc) (.slice yc rs.ss.length ycc) ∧ GRep (Value.int .i64) wt (.slice ya rs.n.length yac) rs.n ∧ LRep wt (.slice yb rs.ws.length ybc) rs.ws ∧ LRep wt (.slice yc rs.ss.length ycc) rs.ss) := ⟨HY7.out.1.below hbt, HY7.out.2.1.below hbt, HY7.out.2.2.1.below hbt, HY7.out.2.2.2.below hbt⟩
  clear kp0 kp1 hbt KT HR7 HB7 HY7
  cases ty
  · obtain ⟨⟨x0, x1, x2⟩, -⟩ := HRt.out.x
    obtain ⟨⟨v0, v1, v2⟩, -⟩ := HYt.out.1
    have K7 : Hid _ := lcRun_same HRt.out.xn HRt.out.xw HRt.out.xs HYt.out.2.1 HYt.out.2.2.1 HYt.out.2.2.2
    go_wp2_with fail
    go_at_call 19; refine Calls.mono K7.out ?_
    rintro e w8 ⟨rfl, hb8⟩
    have HB8 : Hid (Below w.heap.size w w8) := Below.then HBt.out hb8 HBt.out.size
    clear hb8 x0 x1 x2 v0 v1 v2 K7
    go_wp2
    go_ret
    exact ⟨rfl, HB8.out⟩
  have HAF : Hid (AllF ls (prs ls (d + 1) (l : List (Pay × Tr d × Tr d)) topL)) := fine_of HPB.out (by have := HTY.out; rw [HPB.out] at this; simpa using this)
  clear HYt
  go_wp2_with fail
  go_loopw [11] (fun j wr => ∃ (h : Nat), h ≤ 3 ∧ j = .int .i64 h ∧ Below wt.heap.size wt wr) (fun j _ => 3 - (intOf j).toNat)
  case atStart => exact ⟨0, by omega, rfl, Below.refl _ _⟩
  case round =>
    obtain ⟨h, hh, rfl, hbr⟩ := hrel
    by_cases hlt : h < 3
    · have HRr : Hid (Ran wr w1.heap.size w5.heap.size (.slice la ls.length lc) (.slice sa (ln (d + 1) (l : List (Pay × Tr d × Tr d))) sc) (.slice (some ad) zs.length nc) (.slice xa rs.n.length xac) (.slice xb rs.ws.length xbc) (.slice xc rs.ss.length xcc) ls d l zs rs) := HRt.out.below hbr
      obtain ⟨⟨kp0, kp1⟩, -⟩ := HRr.out.p
      have i0' : (0 : Int) ≤ (h : Int) := by omega
      have i1' : (h : Int) < 3 := by omega
      have KK : Hid _ := typeKnows_any (h : Int) HRr.out.L HRr.out.T
      rw [if_pos HPB.out] at KK
      have HBR : Hid (Below wt.heap.size wt wr) := hbr
      clear hbr
      go_wp2_with fail
      go_at_call 23; refine Calls.mono KK.out ?_
      rintro e w8 ⟨kv, kbs, rfl, hb8, ok8, -⟩
      have HR8 : Hid (Ran w8 w1.heap.size w5.heap.size (.slice la ls.length lc) (.slice sa (ln (d + 1) (l : List (Pay × Tr d × Tr d))) sc) (.slice (some ad) zs.length nc) (.slice xa rs.n.length xac) (.slice xb rs.ws.length xbc) (.slice xc rs.ss.length xcc) ls d l zs rs) := HRr.out.below hb8
      have HK8 : Hid (GRep Value.bool w8 kv (knowL ls h)) := ok8.rep
      have HB8 : Hid (Below wt.heap.size wt w8) := Below.then HBR.out hb8 HBR.out.size
      replace kp0 := cell_later hb8 kp0
      replace kp1 := cell_later hb8 kp1
      have hkl : (knowL ls h).length = zs.length := by have := HZL.out; simp [knowL]; omega
      obtain ⟨zo, hzo⟩ : ∃ zo, othF (knowL ls h) len1 zs.length zs = zo := ⟨_, rfl⟩
      have KO : Hid (∀ wz, Below w8.heap.size w8 wz → Calls Try.prog 24 #[.slice (some ad) zs.length nc, kv, .slice a1 len1 cap1] wz fun e w' => ∃ v', e = .returned v' ∧ Below wz.heap.size wz w' ∧ GRep (Value.int .i64) w' v' zo) := (show ∀ wz, _ from fun wz hb => by
        have := lcOther_any (a1 := a1) (n := len1) (cap := cap1) (HR8.out.N.below hb) (HK8.out.below hb) HTEN.out hz1 hz4 hkl (by omega)
        rwa [hzo] at this)
      have zol : zo.length = ls.length := by rw [← hzo, othF_len]; exact HZL.out
      have zot : tenB zo = true := by rw [← hzo]; exact othF_ten _ _ _ _ (by omega) HTEN.out
      have HNB2 : Hid (numsB ls (d + 1) (l : List (Pay × Tr d × Tr d)) zo = true) := (show numsB ls (d + 1) (l : List (Pay × Tr d × Tr d)) zo = true by unfold numsB; rw [HPB.out]; simp [zol, zot])
      obtain ⟨s, hs⟩ : ∃ s, runS ls (d + 1) (l : List (Pay × Tr d × Tr d)) zo = s := ⟨_, rfl⟩
      have HS : Hid _ := hs
      have hdo : s = doT (d + 1) (l : List (Pay × Tr d × Tr d)) ⟨zo, [], []⟩ := by rw [← hs]; unfold runS; rw [HNB2.out]; rfl
      have hok2 := doT_ok (d + 1) (l : List (Pay × Tr d × Tr d)) ls.length 3 ⟨zo, [], []⟩ HST.out zol zot
      rw [← hdo] at hok2
      have HLY : Hid (s.ws.length ≤ 8 ∧ s.ss.length ≤ 8) := (show s.ws.length ≤ 8 ∧ s.ss.length ≤ 8 by
        have := hok2.2.2.1; have := hok2.2.2.2; have := HCN.out; simp at *; omega)
      have HEV : Eqv (fun a => hasB a.1 (h : Int)) ls (some (h : Int)) rs s := by
        rw [HDO.out, hdo, ← hzo]
        exact nin (say_know (by omega) (by omega)) HLABS.out (tel_know (by omega) (by omega) HLABS.out) (d + 1) (l : List (Pay × Tr d × Tr d)) 3 topL _ _ topL_ok HST.out HAF.out (eqv_start (hid_kn ls h hlt) HZL.out)
      have HNL : Hid (s.n.length = rs.n.length) := HEV.1.symm
      have HKL : Hid ((knowL ls h).length = rs.n.length) := (show (knowL ls h).length = rs.n.length by have := HOK.out.1; simp [knowL]; omega)
      have HE2 : Hid (∀ i (h1 : i < rs.n.length) (h2 : i < s.n.length) (h3 : i < (knowL ls h).length), (knowL ls h)[i] = true → rs.n[i] = s.n[i]) := (show ∀ i (h1 : i < rs.n.length) (h2 : i < s.n.length) (h3 : i < (knowL ls h).length), (knowL ls h)[i] = true → rs.n[i] = s.n[i] by
        intro i h1 h2 h3 hk
        have hll : i < ls.length := by simpa [knowL] using h3
        have e1 := hid_kn ls h hlt i hll
        rw [List.getD_eq_getElem?_getD, List.getElem?_eq_getElem h3, Option.getD_some, hk] at e1
        have e2 := HEV.2.1 i (by unfold lab; rw [Int.toNat_natCast, List.getD_eq_getElem?_getD, List.getElem?_eq_getElem hll, Option.getD_some]; exact e1.symm)
        rwa [List.getD_eq_getElem?_getD, List.getD_eq_getElem?_getD, List.getElem?_eq_getElem h1, List.getElem?_eq_getElem h2] at e2)
      have HE3 : Hid (setV (knowL ls h) rs.ws = setV (knowL ls h) s.ws) := setV_eqv (K := fun a => hasB a.1 (h : Int)) (hid_kn ls h hlt) (show (knowL ls h).length = ls.length by simp [knowL]) (by rw [HDO.out]; exact doT_vars (d + 1) (l : List (Pay × Tr d × Tr d)) ls.length 3 ⟨zs, [], []⟩ HST.out (by simp)) (by rw [hdo]; exact doT_vars (d + 1) (l : List (Pay × Tr d × Tr d)) ls.length 3 ⟨zo, [], []⟩ HST.out (by simp)) HEV.2.2.1
      have HE1 : Hid (toH (h : Int) rs.ss = toH (h : Int) s.ss) := (show toH (h : Int) rs.ss = toH (h : Int) s.ss by unfold toH; rw [HEV.2.2.2 _ rfl])
      clear HEV hok2 hdo hs zol zot hzo hkl hb8 ok8 KK HBR HRr
      go_wp2_with fail
      refine wp_region_held (S := (fun wz => Below w8.heap.size w8 wz)) (by kernel_rfl) ?_
      change wpAnyH _ _ _ _ _ _ _ _ (World.drew _)
      have hHeld := (Below.refl w8.heap.size w8).drew
      refine' wpAnyH_take (i := 0) (v := (.agg #[.slice la ls.length lc, .slice sa (ln (d + 1) (l : List (Pay × Tr d × Tr d))) sc])) rfl (by kernel_rfl) (by kernel_rfl) (by kernel_rfl) (fun _ _ _ h => h) (Or.inl ⟨by rfl, ?hy901⟩) hHeld ?hn901
      case hy901 => (intro wz hSw; have k := cell_later hSw kp0; have k' := cell_later hSw kp1; go_simp)
      try simp only [List.getElem_toArray, List.getElem_cons_zero, List.getElem_cons_succ, Act.put, List.setIfInBounds_toArray, List.set_cons_zero, List.set_cons_succ]
      refine' wpAnyH_take (i := 1) (v := _) rfl (by kernel_rfl) (by kernel_rfl) (by kernel_rfl) (fun _ _ _ h => h) (Or.inl ⟨by rfl, ?hy902⟩) hHeld ?hn902
      case hy902 => (intro wz hSw; go_simp; first | done | with_reducible rfl)
      try simp only [List.getElem_toArray, List.getElem_cons_zero, List.getElem_cons_succ, Act.put, List.setIfInBounds_toArray, List.set_cons_zero, List.set_cons_succ]
      refine' wpAnyH_take (i := 2) (v := _) rfl (by kernel_rfl) (by kernel_rfl) (by kernel_rfl) (fun _ _ _ h => h) (Or.inl ⟨by rfl, ?hy903⟩) hHeld ?hn903
      case hy903 => (intro wz hSw; go_simp; first | done | with_reducible rfl)
      try simp only [List.getElem_toArray, List.getElem_cons_zero, List.getElem_cons_succ, Act.put, List.setIfInBounds_toArray, List.set_cons_zero, List.set_cons_succ]
      refine' wpAnyH_take (i := 3) (v := _) rfl (by kernel_rfl) (by kernel_rfl) (by kernel_rfl) (fun _ _ _ h => h) (Or.inl ⟨by rfl, ?hy904⟩) hHeld ?hn904
      case hy904 => (intro wz hSw; go_simp; first | done | with_reducible rfl)
      try simp only [List.getElem_toArray, List.getElem_cons_zero, List.getElem_cons_succ, Act.put, List.setIfInBounds_toArray, List.set_cons_zero, List.set_cons_succ]
      refine wpAnyH_ready (rs := [4, 9]) (by kernel_rfl) (by simp) ?_
      refine AllReadyH.cons rfl (fun K hK => ?_) (AllReadyH.cons rfl (fun K hK => ?_) AllReadyH.nil)
      · go_simp
        refine Calls.mono (KO.out _ hHeld) ?_
        rintro e' wO ⟨ov, rfl, hbO, hO⟩
        refine hK.out _ _ (Below.then hHeld hbO hHeld.size) (fun hHeld => ?_)
        clear hK K
        refine wpAnyH_ready (rs := [5, 9]) (by kernel_rfl) (by simp) ?_
        refine AllReadyH.cons rfl (fun K hK => ?_) (AllReadyH.cons rfl (fun K hK => ?_) AllReadyH.nil)
        · have KR := runOf_any (HR8.out.L.below hHeld) (HR8.out.T.below hHeld) hO
          rw [HNB2.out, HS.out] at KR
          go_simp
          refine Calls.mono KR ?_
          rintro e' wR ⟨vua, vub, vuc, rfl, hbR, r3⟩
          clear KR
          obtain ⟨ua, uac, ha⟩ := rowg_slice r3.n
          obtain ⟨ub, ubc, hb⟩ := rowg_slice r3.ws
          obtain ⟨uc, ucc, hc⟩ := rowg_slice r3.ss
          subst ha hb hc
          refine hK.out _ _ (Below.then hHeld hbR hHeld.size) (fun hHeld => ?_)
          clear hK K
          refine' wpAnyH_take (i := 6) (v := _) rfl (by kernel_rfl) (by kernel_rfl) (by kernel_rfl) (fun _ _ _ h => h) (Or.inl ⟨by rfl, ?hy905⟩) hHeld ?hn905
          case hy905 => (intro wz hSw; go_simp; first | done | with_reducible rfl)
          try simp only [List.getElem_toArray, List.getElem_cons_zero, List.getElem_cons_succ, Act.put, List.setIfInBounds_toArray, List.set_cons_zero, List.set_cons_succ]
          refine' wpAnyH_take (i := 7) (v := _) rfl (by kernel_rfl) (by kernel_rfl) (by kernel_rfl) (fun _ _ _ h => h) (Or.inl ⟨by rfl, ?hy906⟩) hHeld ?hn906
          case hy906 => (intro wz hSw; go_simp; first | done | with_reducible rfl)
          try simp only [List.getElem_toArray, List.getElem_cons_zero, List.getElem_cons_succ, Act.put, List.setIfInBounds_toArray, List.set_cons_zero, List.set_cons_succ]
          refine' wpAnyH_take (i := 8) (v := _) rfl (by kernel_rfl) (by kernel_rfl) (by kernel_rfl) (fun _ _ _ h => h) (Or.inl ⟨by rfl, ?hy907⟩) hHeld ?hn907
          case hy907 => (intro wz hSw; go_simp; first | done | with_reducible rfl)
          try simp only [List.getElem_toArray, List.getElem_cons_zero, List.getElem_cons_succ, Act.put, List.setIfInBounds_toArray, List.set_cons_zero, List.set_cons_succ]
          refine wpAnyH_ready (rs := [9]) (by kernel_rfl) (by simp) ?_
          refine AllReadyH.cons rfl (fun K hK => ?_) AllReadyH.nil
          go_simp
          have CY := C3.new wR (.slice none 0 0) (.slice none 0 0) (.slice none 0 0) 44
          have AY : Below (wR).heap.size wR (World.alloc wR (.cells #[.slice none 0 0, .slice none 0 0, .slice none 0 0] 44)) := (Below.refl _ _).alloc (Nat.le_refl _) _
          obtain ⟨yb, hyb⟩ : ∃ yb, yb = (wR).heap.size := ⟨_, rfl⟩
          have hyl : yb < ((World.alloc wR (.cells #[.slice none 0 0, .slice none 0 0, .slice none 0 0] 44))).heap.size := by rw [hyb]; exact C3.lt CY
          have hy8 : w8.heap.size ≤ yb := by rw [hyb]; first | exact Nat.le_refl _ | exact hHeld.size
          rw [← hyb] at CY ⊢
          have hne : ∀ b, (.slice ua s.n.length uac : Value).ownBlock = some b ∨ (.slice ub s.ws.length ubc : Value).ownBlock = some b ∨ (.slice uc s.ss.length ucc : Value).ownBlock = some b → b ≠ yb := by
            rintro b (h | h | h)
            · have := (World.ownsRow.lt r3.n b h).2; omega
            · have := (World.ownsRow.lt r3.ws b h).2; omega
            · have := (World.ownsRow.lt r3.ss b h).2; omega
          replace r3 := r3.below AY
          clear hyb
          generalize (World.alloc wR (.cells #[.slice none 0 0, .slice none 0 0, .slice none 0 0] 44)) = wY at *
          refine hK.out _ _ (Below.then hHeld AY hHeld.size) (fun hHeld => ?_)
          clear hK K
          refine wpAnyH_ready (rs := [10]) (by kernel_rfl) (by simp) ?_
          refine AllReadyH.cons rfl (fun K hK => ?_) AllReadyH.nil
          obtain ⟨⟨c0, c1, c2⟩, f0, f1, f2⟩ := id CY
          have GY : C3 ((((wY).setCell ⟨yb, 0, none⟩ (.slice ua s.n.length uac)).setCell ⟨yb, 1, none⟩ (.slice ub s.ws.length ubc)).setCell ⟨yb, 2, none⟩ (.slice uc s.ss.length ucc)) yb (.slice ua s.n.length uac) (.slice ub s.ws.length ubc) (.slice uc s.ss.length ucc) := ((CY.set0 _).set1 _).set2 _
          have RY := ((r3.far ⟨yb, 0, none⟩ (.slice ua s.n.length uac) (fun h => hne _ (.inl h) rfl) (fun h => hne _ (.inr (.inl h)) rfl) (fun h => hne _ (.inr (.inr h)) rfl)).far ⟨yb, 1, none⟩ (.slice ub s.ws.length ubc) (fun h => hne _ (.inl h) rfl) (fun h => hne _ (.inr (.inl h)) rfl) (fun h => hne _ (.inr (.inr h)) rfl)).far ⟨yb, 2, none⟩ (.slice uc s.ss.length ucc) (fun h => hne _ (.inl h) rfl) (fun h => hne _ (.inr (.inl h)) rfl) (fun h => hne _ (.inr (.inr h)) rfl)
          have BY : Below w8.heap.size w8 ((((wY).setCell ⟨yb, 0, none⟩ (.slice ua s.n.length uac)).setCell ⟨yb, 1, none⟩ (.slice ub s.ws.length ubc)).setCell ⟨yb, 2, none⟩ (.slice uc s.ss.length ucc)) := ((hHeld.setCell hy8 _).setCell hy8 _).setCell hy8 _
          clear CY hO
          go_simp
          clear c0 c1 c2 f0 f1 f2
          generalize (((wY).setCell ⟨yb, 0, none⟩ (.slice ua s.n.length uac)).setCell ⟨yb, 1, none⟩ (.slice ub s.ws.length ubc)).setCell ⟨yb, 2, none⟩ (.slice uc s.ss.length ucc) = wF at GY RY BY ⊢
          refine hK.out _ _ (BY) (fun hHeld => ?_)
          clear hK K
          refine' wpAnyH_take (i := 11) (v := _) rfl (by kernel_rfl) (by kernel_rfl) (by kernel_rfl) (fun _ _ _ h => h) (Or.inl ⟨by rfl, ?hy908⟩) hHeld ?hn908
          case hy908 => (intro wz hSw; go_simp; first | done | with_reducible rfl)
          try simp only [List.getElem_toArray, List.getElem_cons_zero, List.getElem_cons_succ, Act.put, List.setIfInBounds_toArray, List.set_cons_zero, List.set_cons_succ]
          refine wpAnyH_done (by kernel_rfl) ?_ _
          clear hHeld
          have HRF : Hid (Ran wF w1.heap.size w5.heap.size (.slice la ls.length lc) (.slice sa (ln (d + 1) (l : List (Pay × Tr d × Tr d))) sc) (.slice (some ad) zs.length nc) (.slice xa rs.n.length xac) (.slice xb rs.ws.length xbc) (.slice xc rs.ss.length xcc) ls d l zs rs) := HR8.out.below BY
          have HYF : Hid (GRep (Value.int .i64) wF (.slice ua s.n.length uac) s.n ∧ LRep wF (.slice ub s.ws.length ubc) s.ws ∧ LRep wF (.slice uc s.ss.length ucc) s.ss) := RY.reps
          have HKF : Hid (GRep Value.bool wF kv (knowL ls h)) := HK8.out.below BY
          have HBF : Hid (Below w8.heap.size w8 wF) := BY
          obtain ⟨⟨kx0, kx1, kx2⟩, -⟩ := HRF.out.x
          obtain ⟨⟨ky0, ky1, ky2⟩, -⟩ := GY
          clear RY BY r3 hne
          go_wp2_with fail
          refine wp_region_held (S := (fun wz => Below wF.heap.size wF wz)) (by kernel_rfl) ?_
          change wpAnyH _ _ _ _ _ _ _ _ (World.drew _)
          have hHeld := (Below.refl wF.heap.size wF).drew
          refine' wpAnyH_take (i := 0) (v := _) rfl (by kernel_rfl) (by kernel_rfl) (by kernel_rfl) (fun _ _ _ h => h) (Or.inl ⟨by rfl, ?hy1x2001⟩) hHeld ?hn1x2001
          case hy1x2001 => (intro wz hSw; (try dsimp only at hSw); go_simp; first | done | with_reducible rfl)
          try simp only [List.getElem_toArray, List.getElem_cons_zero, List.getElem_cons_succ, Act.put, List.setIfInBounds_toArray, List.set_cons_zero, List.set_cons_succ]
          refine' wpAnyH_take (i := 1) (v := _) rfl (by kernel_rfl) (by kernel_rfl) (by kernel_rfl) (fun _ _ _ h => h) (Or.inl ⟨by rfl, ?hy1x2002⟩) hHeld ?hn1x2002
          case hy1x2002 => (intro wz hSw; (try dsimp only at hSw); go_simp; first | done | with_reducible rfl)
          try simp only [List.getElem_toArray, List.getElem_cons_zero, List.getElem_cons_succ, Act.put, List.setIfInBounds_toArray, List.set_cons_zero, List.set_cons_succ]
          refine' wpAnyH_take (i := 2) (v := _) rfl (by kernel_rfl) (by kernel_rfl) (by kernel_rfl) (fun _ _ _ h => h) (Or.inl ⟨by rfl, ?hy1x2003⟩) hHeld ?hn1x2003
          case hy1x2003 => (intro wz hSw; (try dsimp only at hSw); go_simp; first | done | with_reducible rfl)
          try simp only [List.getElem_toArray, List.getElem_cons_zero, List.getElem_cons_succ, Act.put, List.setIfInBounds_toArray, List.set_cons_zero, List.set_cons_succ]
          refine' wpAnyH_take (i := 3) (v := (.agg #[.slice xa rs.n.length xac, .slice xb rs.ws.length xbc, .slice xc rs.ss.length xcc])) rfl (by kernel_rfl) (by kernel_rfl) (by kernel_rfl) (fun _ _ _ h => h) (Or.inl ⟨by rfl, ?hy1x2004⟩) hHeld ?hn1x2004
          case hy1x2004 => (intro wz hSw; have k0 := cell_later hSw kx0; have k1 := cell_later hSw kx1; have k2 := cell_later hSw kx2; go_simp)
          try simp only [List.getElem_toArray, List.getElem_cons_zero, List.getElem_cons_succ, Act.put, List.setIfInBounds_toArray, List.set_cons_zero, List.set_cons_succ]
          refine' wpAnyH_take (i := 4) (v := _) rfl (by kernel_rfl) (by kernel_rfl) (by kernel_rfl) (fun _ _ _ h => h) (Or.inl ⟨by rfl, ?hy1x2005⟩) hHeld ?hn1x2005
          case hy1x2005 => (intro wz hSw; (try dsimp only at hSw); go_simp; first | done | with_reducible rfl)
          try simp only [List.getElem_toArray, List.getElem_cons_zero, List.getElem_cons_succ, Act.put, List.setIfInBounds_toArray, List.set_cons_zero, List.set_cons_succ]
          refine' wpAnyH_take (i := 6) (v := (.agg #[.slice ua s.n.length uac, .slice ub s.ws.length ubc, .slice uc s.ss.length ucc])) rfl (by kernel_rfl) (by kernel_rfl) (by kernel_rfl) (fun _ _ _ h => h) (Or.inl ⟨by rfl, ?hy1x2006⟩) hHeld ?hn1x2006
          case hy1x2006 => (intro wz hSw; have k0 := cell_later hSw ky0; have k1 := cell_later hSw ky1; have k2 := cell_later hSw ky2; go_simp)
          try simp only [List.getElem_toArray, List.getElem_cons_zero, List.getElem_cons_succ, Act.put, List.setIfInBounds_toArray, List.set_cons_zero, List.set_cons_succ]
          refine' wpAnyH_take (i := 7) (v := _) rfl (by kernel_rfl) (by kernel_rfl) (by kernel_rfl) (fun _ _ _ h => h) (Or.inl ⟨by rfl, ?hy1x2007⟩) hHeld ?hn1x2007
          case hy1x2007 => (intro wz hSw; (try dsimp only at hSw); go_simp; first | done | with_reducible rfl)
          try simp only [List.getElem_toArray, List.getElem_cons_zero, List.getElem_cons_succ, Act.put, List.setIfInBounds_toArray, List.set_cons_zero, List.set_cons_succ]
          refine wpAnyH_ready (rs := [5]) (by kernel_rfl) (by simp) ?_
          refine AllReadyH.cons rfl (fun K hK => ?_) AllReadyH.nil
          go_simp
          refine Calls.mono (runTo_any _ (HRF.out.xs.below hHeld) (by have := HLX.out; omega)) ?_; rintro e' w9 ⟨t1, _, rfl, hbx, o1, -⟩; have q1 := o1.rep; clear o1
          refine hK.out _ _ (Below.then hHeld hbx hHeld.size) (fun hHeld => ?_)
          clear hK K
          refine wpAnyH_ready (rs := [8]) (by kernel_rfl) (by simp) ?_
          refine AllReadyH.cons rfl (fun K hK => ?_) AllReadyH.nil
          go_simp
          refine Calls.mono (runTo_any _ (HYF.out.2.2.below hHeld) (by have := HLY.out; omega)) ?_; rintro e' w9 ⟨t2, _, rfl, hbx, o2, -⟩; have q2 := o2.rep; replace q1 := q1.below hbx; clear o2
          refine hK.out _ _ (Below.then hHeld hbx hHeld.size) (fun hHeld => ?_)
          clear hK K
          refine wpAnyH_ready (rs := [9]) (by kernel_rfl) (by simp) ?_
          refine AllReadyH.cons rfl (fun K hK => ?_) AllReadyH.nil
          go_simp
          have KI := lcInts_any q1 q2; rw [decide_eq_true HE1.out] at KI; refine Calls.mono KI ?_; rintro e' w9 ⟨rfl, hbx⟩; clear KI q1 q2
          refine hK.out _ _ (Below.then hHeld hbx hHeld.size) (fun hHeld => ?_)
          clear hK K
          refine' wpAnyH_take (i := 10) (v := _) rfl (by kernel_rfl) (by kernel_rfl) (by kernel_rfl) (fun _ _ _ h => h) (Or.inl ⟨by rfl, ?hy1x2008⟩) hHeld ?hn1x2008
          case hy1x2008 => (intro wz hSw; (try dsimp only at hSw); go_simp; first | done | with_reducible rfl)
          try simp only [List.getElem_toArray, List.getElem_cons_zero, List.getElem_cons_succ, Act.put, List.setIfInBounds_toArray, List.set_cons_zero, List.set_cons_succ]
          refine' wpAnyH_take (i := 11) (v := _) rfl (by kernel_rfl) (by kernel_rfl) (by kernel_rfl) (fun _ _ _ h => h) (Or.inl ⟨by rfl, ?hy1x2009⟩) hHeld ?hn1x2009
          case hy1x2009 => (intro wz hSw; (try dsimp only at hSw); go_simp; first | done | with_reducible rfl)
          try simp only [List.getElem_toArray, List.getElem_cons_zero, List.getElem_cons_succ, Act.put, List.setIfInBounds_toArray, List.set_cons_zero, List.set_cons_succ]
          refine' wpAnyH_take (i := 12) (v := _) rfl (by kernel_rfl) (by kernel_rfl) (by kernel_rfl) (fun _ _ _ h => h) (Or.inl ⟨by rfl, ?hy1x2010⟩) hHeld ?hn1x2010
          case hy1x2010 => (intro wz hSw; (try dsimp only at hSw); go_simp; first | done | with_reducible rfl)
          try simp only [List.getElem_toArray, List.getElem_cons_zero, List.getElem_cons_succ, Act.put, List.setIfInBounds_toArray, List.set_cons_zero, List.set_cons_succ]
          refine' wpAnyH_take (i := 13) (v := _) rfl (by kernel_rfl) (by kernel_rfl) (by kernel_rfl) (fun _ _ _ h => h) (Or.inl ⟨by rfl, ?hy1x2011⟩) hHeld ?hn1x2011
          case hy1x2011 => (intro wz hSw; (try dsimp only at hSw); go_simp; first | done | with_reducible rfl)
          try simp only [List.getElem_toArray, List.getElem_cons_zero, List.getElem_cons_succ, Act.put, List.setIfInBounds_toArray, List.set_cons_zero, List.set_cons_succ]
          refine' wpAnyH_take (i := 14) (v := (.slice xa rs.n.length xac)) rfl (by kernel_rfl) (by kernel_rfl) (by kernel_rfl) (fun _ _ _ h => h) (Or.inl ⟨by rfl, ?hy1x2012⟩) hHeld ?hn1x2012
          case hy1x2012 => (intro wz hSw; have k0 := cell_later hSw kx0; go_simp)
          try simp only [List.getElem_toArray, List.getElem_cons_zero, List.getElem_cons_succ, Act.put, List.setIfInBounds_toArray, List.set_cons_zero, List.set_cons_succ]
          refine' wpAnyH_take (i := 15) (v := _) rfl (by kernel_rfl) (by kernel_rfl) (by kernel_rfl) (fun _ _ _ h => h) (Or.inl ⟨by rfl, ?hy1x2013⟩) hHeld ?hn1x2013
          case hy1x2013 => (intro wz hSw; (try dsimp only at hSw); go_simp; first | done | with_reducible rfl)
          try simp only [List.getElem_toArray, List.getElem_cons_zero, List.getElem_cons_succ, Act.put, List.setIfInBounds_toArray, List.set_cons_zero, List.set_cons_succ]
          refine' wpAnyH_take (i := 16) (v := (.slice ua s.n.length uac)) rfl (by kernel_rfl) (by kernel_rfl) (by kernel_rfl) (fun _ _ _ h => h) (Or.inl ⟨by rfl, ?hy1x2014⟩) hHeld ?hn1x2014
          case hy1x2014 => (intro wz hSw; have k0 := cell_later hSw ky0; go_simp)
          try simp only [List.getElem_toArray, List.getElem_cons_zero, List.getElem_cons_succ, Act.put, List.setIfInBounds_toArray, List.set_cons_zero, List.set_cons_succ]
          refine' wpAnyH_take (i := 17) (v := _) rfl (by kernel_rfl) (by kernel_rfl) (by kernel_rfl) (fun _ _ _ h => h) (Or.inl ⟨by rfl, ?hy1x2015⟩) hHeld ?hn1x2015
          case hy1x2015 => (intro wz hSw; (try dsimp only at hSw); go_simp; first | done | with_reducible rfl)
          try simp only [List.getElem_toArray, List.getElem_cons_zero, List.getElem_cons_succ, Act.put, List.setIfInBounds_toArray, List.set_cons_zero, List.set_cons_succ]
          refine wpAnyH_ready (rs := [18]) (by kernel_rfl) (by simp) ?_
          refine AllReadyH.cons rfl (fun K hK => ?_) AllReadyH.nil
          go_simp
          refine Calls.mono (lcSameOf_true (HRF.out.xn.below hHeld) (HYF.out.1.below hHeld) (HKF.out.below hHeld) HNL.out HKL.out HE2.out) ?_; rintro e' w9 ⟨rfl, hbx⟩
          refine hK.out _ _ (Below.then hHeld hbx hHeld.size) (fun hHeld => ?_)
          clear hK K
          refine' wpAnyH_take (i := 19) (v := _) rfl (by kernel_rfl) (by kernel_rfl) (by kernel_rfl) (fun _ _ _ h => h) (Or.inl ⟨by rfl, ?hy1x2016⟩) hHeld ?hn1x2016
          case hy1x2016 => (intro wz hSw; (try dsimp only at hSw); go_simp; first | done | with_reducible rfl)
          try simp only [List.getElem_toArray, List.getElem_cons_zero, List.getElem_cons_succ, Act.put, List.setIfInBounds_toArray, List.set_cons_zero, List.set_cons_succ]
          refine' wpAnyH_take (i := 20) (v := _) rfl (by kernel_rfl) (by kernel_rfl) (by kernel_rfl) (fun _ _ _ h => h) (Or.inl ⟨by rfl, ?hy1x2017⟩) hHeld ?hn1x2017
          case hy1x2017 => (intro wz hSw; (try dsimp only at hSw); go_simp; first | done | with_reducible rfl)
          try simp only [List.getElem_toArray, List.getElem_cons_zero, List.getElem_cons_succ, Act.put, List.setIfInBounds_toArray, List.set_cons_zero, List.set_cons_succ]
          refine' wpAnyH_take (i := 21) (v := _) rfl (by kernel_rfl) (by kernel_rfl) (by kernel_rfl) (fun _ _ _ h => h) (Or.inl ⟨by rfl, ?hy1x2018⟩) hHeld ?hn1x2018
          case hy1x2018 => (intro wz hSw; (try dsimp only at hSw); go_simp; first | done | with_reducible rfl)
          try simp only [List.getElem_toArray, List.getElem_cons_zero, List.getElem_cons_succ, Act.put, List.setIfInBounds_toArray, List.set_cons_zero, List.set_cons_succ]
          refine' wpAnyH_take (i := 22) (v := (.agg #[.slice xa rs.n.length xac, .slice xb rs.ws.length xbc, .slice xc rs.ss.length xcc])) rfl (by kernel_rfl) (by kernel_rfl) (by kernel_rfl) (fun _ _ _ h => h) (Or.inl ⟨by rfl, ?hy1x2019⟩) hHeld ?hn1x2019
          case hy1x2019 => (intro wz hSw; have k0 := cell_later hSw kx0; have k1 := cell_later hSw kx1; have k2 := cell_later hSw kx2; go_simp)
          try simp only [List.getElem_toArray, List.getElem_cons_zero, List.getElem_cons_succ, Act.put, List.setIfInBounds_toArray, List.set_cons_zero, List.set_cons_succ]
          refine' wpAnyH_take (i := 23) (v := _) rfl (by kernel_rfl) (by kernel_rfl) (by kernel_rfl) (fun _ _ _ h => h) (Or.inl ⟨by rfl, ?hy1x2020⟩) hHeld ?hn1x2020
          case hy1x2020 => (intro wz hSw; (try dsimp only at hSw); go_simp; first | done | with_reducible rfl)
          try simp only [List.getElem_toArray, List.getElem_cons_zero, List.getElem_cons_succ, Act.put, List.setIfInBounds_toArray, List.set_cons_zero, List.set_cons_succ]
          refine' wpAnyH_take (i := 25) (v := (.agg #[.slice ua s.n.length uac, .slice ub s.ws.length ubc, .slice uc s.ss.length ucc])) rfl (by kernel_rfl) (by kernel_rfl) (by kernel_rfl) (fun _ _ _ h => h) (Or.inl ⟨by rfl, ?hy1x2021⟩) hHeld ?hn1x2021
          case hy1x2021 => (intro wz hSw; have k0 := cell_later hSw ky0; have k1 := cell_later hSw ky1; have k2 := cell_later hSw ky2; go_simp)
          try simp only [List.getElem_toArray, List.getElem_cons_zero, List.getElem_cons_succ, Act.put, List.setIfInBounds_toArray, List.set_cons_zero, List.set_cons_succ]
          refine' wpAnyH_take (i := 26) (v := _) rfl (by kernel_rfl) (by kernel_rfl) (by kernel_rfl) (fun _ _ _ h => h) (Or.inl ⟨by rfl, ?hy1x2022⟩) hHeld ?hn1x2022
          case hy1x2022 => (intro wz hSw; (try dsimp only at hSw); go_simp; first | done | with_reducible rfl)
          try simp only [List.getElem_toArray, List.getElem_cons_zero, List.getElem_cons_succ, Act.put, List.setIfInBounds_toArray, List.set_cons_zero, List.set_cons_succ]
          refine wpAnyH_ready (rs := [24]) (by kernel_rfl) (by simp) ?_
          refine AllReadyH.cons rfl (fun K hK => ?_) AllReadyH.nil
          go_simp
          refine Calls.mono (runSets_any (HRF.out.xw.below hHeld) (HKF.out.below hHeld) (by have := HLX.out; omega)) ?_; rintro e' w9 ⟨t3, _, rfl, hbx, o3, -⟩; have q3 := o3.rep; clear o3
          refine hK.out _ _ (Below.then hHeld hbx hHeld.size) (fun hHeld => ?_)
          clear hK K
          refine wpAnyH_ready (rs := [27]) (by kernel_rfl) (by simp) ?_
          refine AllReadyH.cons rfl (fun K hK => ?_) AllReadyH.nil
          go_simp
          refine Calls.mono (runSets_any (HYF.out.2.1.below hHeld) (HKF.out.below hHeld) (by have := HLY.out; omega)) ?_; rintro e' w9 ⟨t4, _, rfl, hbx, o4, -⟩; have q4 := o4.rep; replace q3 := q3.below hbx; clear o4
          refine hK.out _ _ (Below.then hHeld hbx hHeld.size) (fun hHeld => ?_)
          clear hK K
          refine wpAnyH_ready (rs := [28]) (by kernel_rfl) (by simp) ?_
          refine AllReadyH.cons rfl (fun K hK => ?_) AllReadyH.nil
          go_simp
          have KI := lcWrites_any q3 q4; rw [decide_eq_true HE3.out] at KI; refine Calls.mono KI ?_; rintro e' w9 ⟨rfl, hbx⟩; clear KI q3 q4
          refine hK.out _ _ (Below.then hHeld hbx hHeld.size) (fun hHeld => ?_)
          clear hK K
          refine' wpAnyH_take (i := 29) (v := _) rfl (by kernel_rfl) (by kernel_rfl) (by kernel_rfl) (fun _ _ _ h => h) (Or.inl ⟨by rfl, ?hy1x2023⟩) hHeld ?hn1x2023
          case hy1x2023 => (intro wz hSw; (try dsimp only at hSw); go_simp; first | done | with_reducible rfl)
          try simp only [List.getElem_toArray, List.getElem_cons_zero, List.getElem_cons_succ, Act.put, List.setIfInBounds_toArray, List.set_cons_zero, List.set_cons_succ]
          refine' wpAnyH_take (i := 30) (v := _) rfl (by kernel_rfl) (by kernel_rfl) (by kernel_rfl) (fun _ _ _ h => h) (Or.inl ⟨by rfl, ?hy1x2024⟩) hHeld ?hn1x2024
          case hy1x2024 => (intro wz hSw; (try dsimp only at hSw); go_simp; first | done | with_reducible rfl)
          try simp only [List.getElem_toArray, List.getElem_cons_zero, List.getElem_cons_succ, Act.put, List.setIfInBounds_toArray, List.set_cons_zero, List.set_cons_succ]
          refine wpAnyH_done (by kernel_rfl) ?_ _
          have HBq : Hid (Below wt.heap.size wt _) := Below.then HB8.out (Below.then HBF.out hHeld HBF.out.size) HB8.out.size
          clear hHeld
          go_wp2
          exact ⟨⟨h + 1, by omega, by simp, HBq.out⟩, by simp [intOf]; omega⟩
        · go_simp
          have CY := C3.new wO (.slice none 0 0) (.slice none 0 0) (.slice none 0 0) 44
          have AY : Below (wO).heap.size wO (World.alloc wO (.cells #[.slice none 0 0, .slice none 0 0, .slice none 0 0] 44)) := (Below.refl _ _).alloc (Nat.le_refl _) _
          obtain ⟨yb, hyb⟩ : ∃ yb, yb = (wO).heap.size := ⟨_, rfl⟩
          have hyl : yb < ((World.alloc wO (.cells #[.slice none 0 0, .slice none 0 0, .slice none 0 0] 44))).heap.size := by rw [hyb]; exact C3.lt CY
          have hy8 : w8.heap.size ≤ yb := by rw [hyb]; first | exact Nat.le_refl _ | exact hHeld.size
          rw [← hyb] at CY ⊢
          replace hO := hO.below AY
          clear hyb
          generalize (World.alloc wO (.cells #[.slice none 0 0, .slice none 0 0, .slice none 0 0] 44)) = wY at *
          refine hK.out _ _ (Below.then hHeld AY hHeld.size) (fun hHeld => ?_)
          clear hK K
          refine wpAnyH_ready (rs := [5]) (by kernel_rfl) (by simp) ?_
          refine AllReadyH.cons rfl (fun K hK => ?_) AllReadyH.nil
          have KR := runOf_any (HR8.out.L.below hHeld) (HR8.out.T.below hHeld) hO
          rw [HNB2.out, HS.out] at KR
          go_simp
          refine Calls.mono KR ?_
          rintro e' wR ⟨vua, vub, vuc, rfl, hbR, r3⟩
          clear KR
          obtain ⟨ua, uac, ha⟩ := rowg_slice r3.n
          obtain ⟨ub, ubc, hb⟩ := rowg_slice r3.ws
          obtain ⟨uc, ucc, hc⟩ := rowg_slice r3.ss
          subst ha hb hc
          have hne : ∀ b, (.slice ua s.n.length uac : Value).ownBlock = some b ∨ (.slice ub s.ws.length ubc : Value).ownBlock = some b ∨ (.slice uc s.ss.length ucc : Value).ownBlock = some b → b ≠ yb := by
            rintro b (h | h | h)
            · have := (World.ownsRow.lt r3.n b h).1; omega
            · have := (World.ownsRow.lt r3.ws b h).1; omega
            · have := (World.ownsRow.lt r3.ss b h).1; omega
          replace CY := C3.below CY hbR
          replace hyl := Nat.lt_of_lt_of_le hyl hbR.size
          refine hK.out _ _ (Below.then hHeld hbR hHeld.size) (fun hHeld => ?_)
          clear hK K
          refine' wpAnyH_take (i := 6) (v := _) rfl (by kernel_rfl) (by kernel_rfl) (by kernel_rfl) (fun _ _ _ h => h) (Or.inl ⟨by rfl, ?hy909⟩) hHeld ?hn909
          case hy909 => (intro wz hSw; go_simp; first | done | with_reducible rfl)
          try simp only [List.getElem_toArray, List.getElem_cons_zero, List.getElem_cons_succ, Act.put, List.setIfInBounds_toArray, List.set_cons_zero, List.set_cons_succ]
          refine' wpAnyH_take (i := 7) (v := _) rfl (by kernel_rfl) (by kernel_rfl) (by kernel_rfl) (fun _ _ _ h => h) (Or.inl ⟨by rfl, ?hy910⟩) hHeld ?hn910
          case hy910 => (intro wz hSw; go_simp; first | done | with_reducible rfl)
          try simp only [List.getElem_toArray, List.getElem_cons_zero, List.getElem_cons_succ, Act.put, List.setIfInBounds_toArray, List.set_cons_zero, List.set_cons_succ]
          refine' wpAnyH_take (i := 8) (v := _) rfl (by kernel_rfl) (by kernel_rfl) (by kernel_rfl) (fun _ _ _ h => h) (Or.inl ⟨by rfl, ?hy911⟩) hHeld ?hn911
          case hy911 => (intro wz hSw; go_simp; first | done | with_reducible rfl)
          try simp only [List.getElem_toArray, List.getElem_cons_zero, List.getElem_cons_succ, Act.put, List.setIfInBounds_toArray, List.set_cons_zero, List.set_cons_succ]
          refine wpAnyH_ready (rs := [10]) (by kernel_rfl) (by simp) ?_
          refine AllReadyH.cons rfl (fun K hK => ?_) AllReadyH.nil
          obtain ⟨⟨c0, c1, c2⟩, f0, f1, f2⟩ := id CY
          have GY : C3 ((((wR).setCell ⟨yb, 0, none⟩ (.slice ua s.n.length uac)).setCell ⟨yb, 1, none⟩ (.slice ub s.ws.length ubc)).setCell ⟨yb, 2, none⟩ (.slice uc s.ss.length ucc)) yb (.slice ua s.n.length uac) (.slice ub s.ws.length ubc) (.slice uc s.ss.length ucc) := ((CY.set0 _).set1 _).set2 _
          have RY := ((r3.far ⟨yb, 0, none⟩ (.slice ua s.n.length uac) (fun h => hne _ (.inl h) rfl) (fun h => hne _ (.inr (.inl h)) rfl) (fun h => hne _ (.inr (.inr h)) rfl)).far ⟨yb, 1, none⟩ (.slice ub s.ws.length ubc) (fun h => hne _ (.inl h) rfl) (fun h => hne _ (.inr (.inl h)) rfl) (fun h => hne _ (.inr (.inr h)) rfl)).far ⟨yb, 2, none⟩ (.slice uc s.ss.length ucc) (fun h => hne _ (.inl h) rfl) (fun h => hne _ (.inr (.inl h)) rfl) (fun h => hne _ (.inr (.inr h)) rfl)
          have BY : Below w8.heap.size w8 ((((wR).setCell ⟨yb, 0, none⟩ (.slice ua s.n.length uac)).setCell ⟨yb, 1, none⟩ (.slice ub s.ws.length ubc)).setCell ⟨yb, 2, none⟩ (.slice uc s.ss.length ucc)) := ((hHeld.setCell hy8 _).setCell hy8 _).setCell hy8 _
          clear CY hO
          go_simp
          clear c0 c1 c2 f0 f1 f2
          generalize (((wR).setCell ⟨yb, 0, none⟩ (.slice ua s.n.length uac)).setCell ⟨yb, 1, none⟩ (.slice ub s.ws.length ubc)).setCell ⟨yb, 2, none⟩ (.slice uc s.ss.length ucc) = wF at GY RY BY ⊢
          refine hK.out _ _ (BY) (fun hHeld => ?_)
          clear hK K
          refine' wpAnyH_take (i := 11) (v := _) rfl (by kernel_rfl) (by kernel_rfl) (by kernel_rfl) (fun _ _ _ h => h) (Or.inl ⟨by rfl, ?hy912⟩) hHeld ?hn912
          case hy912 => (intro wz hSw; go_simp; first | done | with_reducible rfl)
          try simp only [List.getElem_toArray, List.getElem_cons_zero, List.getElem_cons_succ, Act.put, List.setIfInBounds_toArray, List.set_cons_zero, List.set_cons_succ]
          refine wpAnyH_done (by kernel_rfl) ?_ _
          clear hHeld
          have HRF : Hid (Ran wF w1.heap.size w5.heap.size (.slice la ls.length lc) (.slice sa (ln (d + 1) (l : List (Pay × Tr d × Tr d))) sc) (.slice (some ad) zs.length nc) (.slice xa rs.n.length xac) (.slice xb rs.ws.length xbc) (.slice xc rs.ss.length xcc) ls d l zs rs) := HR8.out.below BY
          have HYF : Hid (GRep (Value.int .i64) wF (.slice ua s.n.length uac) s.n ∧ LRep wF (.slice ub s.ws.length ubc) s.ws ∧ LRep wF (.slice uc s.ss.length ucc) s.ss) := RY.reps
          have HKF : Hid (GRep Value.bool wF kv (knowL ls h)) := HK8.out.below BY
          have HBF : Hid (Below w8.heap.size w8 wF) := BY
          obtain ⟨⟨kx0, kx1, kx2⟩, -⟩ := HRF.out.x
          obtain ⟨⟨ky0, ky1, ky2⟩, -⟩ := GY
          clear RY BY r3 hne
          go_wp2_with fail
          refine wp_region_held (S := (fun wz => Below wF.heap.size wF wz)) (by kernel_rfl) ?_
          change wpAnyH _ _ _ _ _ _ _ _ (World.drew _)
          have hHeld := (Below.refl wF.heap.size wF).drew
          refine' wpAnyH_take (i := 0) (v := _) rfl (by kernel_rfl) (by kernel_rfl) (by kernel_rfl) (fun _ _ _ h => h) (Or.inl ⟨by rfl, ?hy2x2001⟩) hHeld ?hn2x2001
          case hy2x2001 => (intro wz hSw; (try dsimp only at hSw); go_simp; first | done | with_reducible rfl)
          try simp only [List.getElem_toArray, List.getElem_cons_zero, List.getElem_cons_succ, Act.put, List.setIfInBounds_toArray, List.set_cons_zero, List.set_cons_succ]
          refine' wpAnyH_take (i := 1) (v := _) rfl (by kernel_rfl) (by kernel_rfl) (by kernel_rfl) (fun _ _ _ h => h) (Or.inl ⟨by rfl, ?hy2x2002⟩) hHeld ?hn2x2002
          case hy2x2002 => (intro wz hSw; (try dsimp only at hSw); go_simp; first | done | with_reducible rfl)
          try simp only [List.getElem_toArray, List.getElem_cons_zero, List.getElem_cons_succ, Act.put, List.setIfInBounds_toArray, List.set_cons_zero, List.set_cons_succ]
          refine' wpAnyH_take (i := 2) (v := _) rfl (by kernel_rfl) (by kernel_rfl) (by kernel_rfl) (fun _ _ _ h => h) (Or.inl ⟨by rfl, ?hy2x2003⟩) hHeld ?hn2x2003
          case hy2x2003 => (intro wz hSw; (try dsimp only at hSw); go_simp; first | done | with_reducible rfl)
          try simp only [List.getElem_toArray, List.getElem_cons_zero, List.getElem_cons_succ, Act.put, List.setIfInBounds_toArray, List.set_cons_zero, List.set_cons_succ]
          refine' wpAnyH_take (i := 3) (v := (.agg #[.slice xa rs.n.length xac, .slice xb rs.ws.length xbc, .slice xc rs.ss.length xcc])) rfl (by kernel_rfl) (by kernel_rfl) (by kernel_rfl) (fun _ _ _ h => h) (Or.inl ⟨by rfl, ?hy2x2004⟩) hHeld ?hn2x2004
          case hy2x2004 => (intro wz hSw; have k0 := cell_later hSw kx0; have k1 := cell_later hSw kx1; have k2 := cell_later hSw kx2; go_simp)
          try simp only [List.getElem_toArray, List.getElem_cons_zero, List.getElem_cons_succ, Act.put, List.setIfInBounds_toArray, List.set_cons_zero, List.set_cons_succ]
          refine' wpAnyH_take (i := 4) (v := _) rfl (by kernel_rfl) (by kernel_rfl) (by kernel_rfl) (fun _ _ _ h => h) (Or.inl ⟨by rfl, ?hy2x2005⟩) hHeld ?hn2x2005
          case hy2x2005 => (intro wz hSw; (try dsimp only at hSw); go_simp; first | done | with_reducible rfl)
          try simp only [List.getElem_toArray, List.getElem_cons_zero, List.getElem_cons_succ, Act.put, List.setIfInBounds_toArray, List.set_cons_zero, List.set_cons_succ]
          refine' wpAnyH_take (i := 6) (v := (.agg #[.slice ua s.n.length uac, .slice ub s.ws.length ubc, .slice uc s.ss.length ucc])) rfl (by kernel_rfl) (by kernel_rfl) (by kernel_rfl) (fun _ _ _ h => h) (Or.inl ⟨by rfl, ?hy2x2006⟩) hHeld ?hn2x2006
          case hy2x2006 => (intro wz hSw; have k0 := cell_later hSw ky0; have k1 := cell_later hSw ky1; have k2 := cell_later hSw ky2; go_simp)
          try simp only [List.getElem_toArray, List.getElem_cons_zero, List.getElem_cons_succ, Act.put, List.setIfInBounds_toArray, List.set_cons_zero, List.set_cons_succ]
          refine' wpAnyH_take (i := 7) (v := _) rfl (by kernel_rfl) (by kernel_rfl) (by kernel_rfl) (fun _ _ _ h => h) (Or.inl ⟨by rfl, ?hy2x2007⟩) hHeld ?hn2x2007
          case hy2x2007 => (intro wz hSw; (try dsimp only at hSw); go_simp; first | done | with_reducible rfl)
          try simp only [List.getElem_toArray, List.getElem_cons_zero, List.getElem_cons_succ, Act.put, List.setIfInBounds_toArray, List.set_cons_zero, List.set_cons_succ]
          refine wpAnyH_ready (rs := [5]) (by kernel_rfl) (by simp) ?_
          refine AllReadyH.cons rfl (fun K hK => ?_) AllReadyH.nil
          go_simp
          refine Calls.mono (runTo_any _ (HRF.out.xs.below hHeld) (by have := HLX.out; omega)) ?_; rintro e' w9 ⟨t1, _, rfl, hbx, o1, -⟩; have q1 := o1.rep; clear o1
          refine hK.out _ _ (Below.then hHeld hbx hHeld.size) (fun hHeld => ?_)
          clear hK K
          refine wpAnyH_ready (rs := [8]) (by kernel_rfl) (by simp) ?_
          refine AllReadyH.cons rfl (fun K hK => ?_) AllReadyH.nil
          go_simp
          refine Calls.mono (runTo_any _ (HYF.out.2.2.below hHeld) (by have := HLY.out; omega)) ?_; rintro e' w9 ⟨t2, _, rfl, hbx, o2, -⟩; have q2 := o2.rep; replace q1 := q1.below hbx; clear o2
          refine hK.out _ _ (Below.then hHeld hbx hHeld.size) (fun hHeld => ?_)
          clear hK K
          refine wpAnyH_ready (rs := [9]) (by kernel_rfl) (by simp) ?_
          refine AllReadyH.cons rfl (fun K hK => ?_) AllReadyH.nil
          go_simp
          have KI := lcInts_any q1 q2; rw [decide_eq_true HE1.out] at KI; refine Calls.mono KI ?_; rintro e' w9 ⟨rfl, hbx⟩; clear KI q1 q2
          refine hK.out _ _ (Below.then hHeld hbx hHeld.size) (fun hHeld => ?_)
          clear hK K
          refine' wpAnyH_take (i := 10) (v := _) rfl (by kernel_rfl) (by kernel_rfl) (by kernel_rfl) (fun _ _ _ h => h) (Or.inl ⟨by rfl, ?hy2x2008⟩) hHeld ?hn2x2008
          case hy2x2008 => (intro wz hSw; (try dsimp only at hSw); go_simp; first | done | with_reducible rfl)
          try simp only [List.getElem_toArray, List.getElem_cons_zero, List.getElem_cons_succ, Act.put, List.setIfInBounds_toArray, List.set_cons_zero, List.set_cons_succ]
          refine' wpAnyH_take (i := 11) (v := _) rfl (by kernel_rfl) (by kernel_rfl) (by kernel_rfl) (fun _ _ _ h => h) (Or.inl ⟨by rfl, ?hy2x2009⟩) hHeld ?hn2x2009
          case hy2x2009 => (intro wz hSw; (try dsimp only at hSw); go_simp; first | done | with_reducible rfl)
          try simp only [List.getElem_toArray, List.getElem_cons_zero, List.getElem_cons_succ, Act.put, List.setIfInBounds_toArray, List.set_cons_zero, List.set_cons_succ]
          refine' wpAnyH_take (i := 12) (v := _) rfl (by kernel_rfl) (by kernel_rfl) (by kernel_rfl) (fun _ _ _ h => h) (Or.inl ⟨by rfl, ?hy2x2010⟩) hHeld ?hn2x2010
          case hy2x2010 => (intro wz hSw; (try dsimp only at hSw); go_simp; first | done | with_reducible rfl)
          try simp only [List.getElem_toArray, List.getElem_cons_zero, List.getElem_cons_succ, Act.put, List.setIfInBounds_toArray, List.set_cons_zero, List.set_cons_succ]
          refine' wpAnyH_take (i := 13) (v := _) rfl (by kernel_rfl) (by kernel_rfl) (by kernel_rfl) (fun _ _ _ h => h) (Or.inl ⟨by rfl, ?hy2x2011⟩) hHeld ?hn2x2011
          case hy2x2011 => (intro wz hSw; (try dsimp only at hSw); go_simp; first | done | with_reducible rfl)
          try simp only [List.getElem_toArray, List.getElem_cons_zero, List.getElem_cons_succ, Act.put, List.setIfInBounds_toArray, List.set_cons_zero, List.set_cons_succ]
          refine' wpAnyH_take (i := 14) (v := (.slice xa rs.n.length xac)) rfl (by kernel_rfl) (by kernel_rfl) (by kernel_rfl) (fun _ _ _ h => h) (Or.inl ⟨by rfl, ?hy2x2012⟩) hHeld ?hn2x2012
          case hy2x2012 => (intro wz hSw; have k0 := cell_later hSw kx0; go_simp)
          try simp only [List.getElem_toArray, List.getElem_cons_zero, List.getElem_cons_succ, Act.put, List.setIfInBounds_toArray, List.set_cons_zero, List.set_cons_succ]
          refine' wpAnyH_take (i := 15) (v := _) rfl (by kernel_rfl) (by kernel_rfl) (by kernel_rfl) (fun _ _ _ h => h) (Or.inl ⟨by rfl, ?hy2x2013⟩) hHeld ?hn2x2013
          case hy2x2013 => (intro wz hSw; (try dsimp only at hSw); go_simp; first | done | with_reducible rfl)
          try simp only [List.getElem_toArray, List.getElem_cons_zero, List.getElem_cons_succ, Act.put, List.setIfInBounds_toArray, List.set_cons_zero, List.set_cons_succ]
          refine' wpAnyH_take (i := 16) (v := (.slice ua s.n.length uac)) rfl (by kernel_rfl) (by kernel_rfl) (by kernel_rfl) (fun _ _ _ h => h) (Or.inl ⟨by rfl, ?hy2x2014⟩) hHeld ?hn2x2014
          case hy2x2014 => (intro wz hSw; have k0 := cell_later hSw ky0; go_simp)
          try simp only [List.getElem_toArray, List.getElem_cons_zero, List.getElem_cons_succ, Act.put, List.setIfInBounds_toArray, List.set_cons_zero, List.set_cons_succ]
          refine' wpAnyH_take (i := 17) (v := _) rfl (by kernel_rfl) (by kernel_rfl) (by kernel_rfl) (fun _ _ _ h => h) (Or.inl ⟨by rfl, ?hy2x2015⟩) hHeld ?hn2x2015
          case hy2x2015 => (intro wz hSw; (try dsimp only at hSw); go_simp; first | done | with_reducible rfl)
          try simp only [List.getElem_toArray, List.getElem_cons_zero, List.getElem_cons_succ, Act.put, List.setIfInBounds_toArray, List.set_cons_zero, List.set_cons_succ]
          refine wpAnyH_ready (rs := [18]) (by kernel_rfl) (by simp) ?_
          refine AllReadyH.cons rfl (fun K hK => ?_) AllReadyH.nil
          go_simp
          refine Calls.mono (lcSameOf_true (HRF.out.xn.below hHeld) (HYF.out.1.below hHeld) (HKF.out.below hHeld) HNL.out HKL.out HE2.out) ?_; rintro e' w9 ⟨rfl, hbx⟩
          refine hK.out _ _ (Below.then hHeld hbx hHeld.size) (fun hHeld => ?_)
          clear hK K
          refine' wpAnyH_take (i := 19) (v := _) rfl (by kernel_rfl) (by kernel_rfl) (by kernel_rfl) (fun _ _ _ h => h) (Or.inl ⟨by rfl, ?hy2x2016⟩) hHeld ?hn2x2016
          case hy2x2016 => (intro wz hSw; (try dsimp only at hSw); go_simp; first | done | with_reducible rfl)
          try simp only [List.getElem_toArray, List.getElem_cons_zero, List.getElem_cons_succ, Act.put, List.setIfInBounds_toArray, List.set_cons_zero, List.set_cons_succ]
          refine' wpAnyH_take (i := 20) (v := _) rfl (by kernel_rfl) (by kernel_rfl) (by kernel_rfl) (fun _ _ _ h => h) (Or.inl ⟨by rfl, ?hy2x2017⟩) hHeld ?hn2x2017
          case hy2x2017 => (intro wz hSw; (try dsimp only at hSw); go_simp; first | done | with_reducible rfl)
          try simp only [List.getElem_toArray, List.getElem_cons_zero, List.getElem_cons_succ, Act.put, List.setIfInBounds_toArray, List.set_cons_zero, List.set_cons_succ]
          refine' wpAnyH_take (i := 21) (v := _) rfl (by kernel_rfl) (by kernel_rfl) (by kernel_rfl) (fun _ _ _ h => h) (Or.inl ⟨by rfl, ?hy2x2018⟩) hHeld ?hn2x2018
          case hy2x2018 => (intro wz hSw; (try dsimp only at hSw); go_simp; first | done | with_reducible rfl)
          try simp only [List.getElem_toArray, List.getElem_cons_zero, List.getElem_cons_succ, Act.put, List.setIfInBounds_toArray, List.set_cons_zero, List.set_cons_succ]
          refine' wpAnyH_take (i := 22) (v := (.agg #[.slice xa rs.n.length xac, .slice xb rs.ws.length xbc, .slice xc rs.ss.length xcc])) rfl (by kernel_rfl) (by kernel_rfl) (by kernel_rfl) (fun _ _ _ h => h) (Or.inl ⟨by rfl, ?hy2x2019⟩) hHeld ?hn2x2019
          case hy2x2019 => (intro wz hSw; have k0 := cell_later hSw kx0; have k1 := cell_later hSw kx1; have k2 := cell_later hSw kx2; go_simp)
          try simp only [List.getElem_toArray, List.getElem_cons_zero, List.getElem_cons_succ, Act.put, List.setIfInBounds_toArray, List.set_cons_zero, List.set_cons_succ]
          refine' wpAnyH_take (i := 23) (v := _) rfl (by kernel_rfl) (by kernel_rfl) (by kernel_rfl) (fun _ _ _ h => h) (Or.inl ⟨by rfl, ?hy2x2020⟩) hHeld ?hn2x2020
          case hy2x2020 => (intro wz hSw; (try dsimp only at hSw); go_simp; first | done | with_reducible rfl)
          try simp only [List.getElem_toArray, List.getElem_cons_zero, List.getElem_cons_succ, Act.put, List.setIfInBounds_toArray, List.set_cons_zero, List.set_cons_succ]
          refine' wpAnyH_take (i := 25) (v := (.agg #[.slice ua s.n.length uac, .slice ub s.ws.length ubc, .slice uc s.ss.length ucc])) rfl (by kernel_rfl) (by kernel_rfl) (by kernel_rfl) (fun _ _ _ h => h) (Or.inl ⟨by rfl, ?hy2x2021⟩) hHeld ?hn2x2021
          case hy2x2021 => (intro wz hSw; have k0 := cell_later hSw ky0; have k1 := cell_later hSw ky1; have k2 := cell_later hSw ky2; go_simp)
          try simp only [List.getElem_toArray, List.getElem_cons_zero, List.getElem_cons_succ, Act.put, List.setIfInBounds_toArray, List.set_cons_zero, List.set_cons_succ]
          refine' wpAnyH_take (i := 26) (v := _) rfl (by kernel_rfl) (by kernel_rfl) (by kernel_rfl) (fun _ _ _ h => h) (Or.inl ⟨by rfl, ?hy2x2022⟩) hHeld ?hn2x2022
          case hy2x2022 => (intro wz hSw; (try dsimp only at hSw); go_simp; first | done | with_reducible rfl)
          try simp only [List.getElem_toArray, List.getElem_cons_zero, List.getElem_cons_succ, Act.put, List.setIfInBounds_toArray, List.set_cons_zero, List.set_cons_succ]
          refine wpAnyH_ready (rs := [24]) (by kernel_rfl) (by simp) ?_
          refine AllReadyH.cons rfl (fun K hK => ?_) AllReadyH.nil
          go_simp
          refine Calls.mono (runSets_any (HRF.out.xw.below hHeld) (HKF.out.below hHeld) (by have := HLX.out; omega)) ?_; rintro e' w9 ⟨t3, _, rfl, hbx, o3, -⟩; have q3 := o3.rep; clear o3
          refine hK.out _ _ (Below.then hHeld hbx hHeld.size) (fun hHeld => ?_)
          clear hK K
          refine wpAnyH_ready (rs := [27]) (by kernel_rfl) (by simp) ?_
          refine AllReadyH.cons rfl (fun K hK => ?_) AllReadyH.nil
          go_simp
          refine Calls.mono (runSets_any (HYF.out.2.1.below hHeld) (HKF.out.below hHeld) (by have := HLY.out; omega)) ?_; rintro e' w9 ⟨t4, _, rfl, hbx, o4, -⟩; have q4 := o4.rep; replace q3 := q3.below hbx; clear o4
          refine hK.out _ _ (Below.then hHeld hbx hHeld.size) (fun hHeld => ?_)
          clear hK K
          refine wpAnyH_ready (rs := [28]) (by kernel_rfl) (by simp) ?_
          refine AllReadyH.cons rfl (fun K hK => ?_) AllReadyH.nil
          go_simp
          have KI := lcWrites_any q3 q4; rw [decide_eq_true HE3.out] at KI; refine Calls.mono KI ?_; rintro e' w9 ⟨rfl, hbx⟩; clear KI q3 q4
          refine hK.out _ _ (Below.then hHeld hbx hHeld.size) (fun hHeld => ?_)
          clear hK K
          refine' wpAnyH_take (i := 29) (v := _) rfl (by kernel_rfl) (by kernel_rfl) (by kernel_rfl) (fun _ _ _ h => h) (Or.inl ⟨by rfl, ?hy2x2023⟩) hHeld ?hn2x2023
          case hy2x2023 => (intro wz hSw; (try dsimp only at hSw); go_simp; first | done | with_reducible rfl)
          try simp only [List.getElem_toArray, List.getElem_cons_zero, List.getElem_cons_succ, Act.put, List.setIfInBounds_toArray, List.set_cons_zero, List.set_cons_succ]
          refine' wpAnyH_take (i := 30) (v := _) rfl (by kernel_rfl) (by kernel_rfl) (by kernel_rfl) (fun _ _ _ h => h) (Or.inl ⟨by rfl, ?hy2x2024⟩) hHeld ?hn2x2024
          case hy2x2024 => (intro wz hSw; (try dsimp only at hSw); go_simp; first | done | with_reducible rfl)
          try simp only [List.getElem_toArray, List.getElem_cons_zero, List.getElem_cons_succ, Act.put, List.setIfInBounds_toArray, List.set_cons_zero, List.set_cons_succ]
          refine wpAnyH_done (by kernel_rfl) ?_ _
          have HBq : Hid (Below wt.heap.size wt _) := Below.then HB8.out (Below.then HBF.out hHeld HBF.out.size) HB8.out.size
          clear hHeld
          go_wp2
          exact ⟨⟨h + 1, by omega, by simp, HBq.out⟩, by simp [intOf]; omega⟩
      · go_simp
        have CY := C3.below (C3.new w8 (.slice none 0 0) (.slice none 0 0) (.slice none 0 0) 44) (Below.drew (Below.refl _ _))
        have AY : Below w8.heap.size w8 (World.drew (World.alloc w8 (.cells #[.slice none 0 0, .slice none 0 0, .slice none 0 0] 44))) := ((Below.refl _ _).alloc (Nat.le_refl _) _).drew
        obtain ⟨yb, hyb⟩ : ∃ yb, yb = (w8).heap.size := ⟨_, rfl⟩
        have hyl : yb < ((World.drew (World.alloc w8 (.cells #[.slice none 0 0, .slice none 0 0, .slice none 0 0] 44)))).heap.size := by rw [hyb]; exact C3.lt CY
        have hy8 : w8.heap.size ≤ yb := by rw [hyb]; first | exact Nat.le_refl _ | exact hHeld.size
        rw [← hyb] at CY ⊢
        clear hyb
        generalize (World.drew (World.alloc w8 (.cells #[.slice none 0 0, .slice none 0 0, .slice none 0 0] 44))) = wY at *
        refine hK.out _ _ (AY) (fun hHeld => ?_)
        clear hK K
        refine wpAnyH_ready (rs := [4]) (by kernel_rfl) (by simp) ?_
        refine AllReadyH.cons rfl (fun K hK => ?_) AllReadyH.nil
        go_simp
        refine Calls.mono (KO.out _ hHeld) ?_
        rintro e' wO ⟨ov, rfl, hbO, hO⟩
        replace CY := C3.below CY hbO
        replace hyl := Nat.lt_of_lt_of_le hyl hbO.size
        refine hK.out _ _ (Below.then hHeld hbO hHeld.size) (fun hHeld => ?_)
        clear hK K
        refine wpAnyH_ready (rs := [5]) (by kernel_rfl) (by simp) ?_
        refine AllReadyH.cons rfl (fun K hK => ?_) AllReadyH.nil
        have KR := runOf_any (HR8.out.L.below hHeld) (HR8.out.T.below hHeld) hO
        rw [HNB2.out, HS.out] at KR
        go_simp
        refine Calls.mono KR ?_
        rintro e' wR ⟨vua, vub, vuc, rfl, hbR, r3⟩
        clear KR
        obtain ⟨ua, uac, ha⟩ := rowg_slice r3.n
        obtain ⟨ub, ubc, hb⟩ := rowg_slice r3.ws
        obtain ⟨uc, ucc, hc⟩ := rowg_slice r3.ss
        subst ha hb hc
        have hne : ∀ b, (.slice ua s.n.length uac : Value).ownBlock = some b ∨ (.slice ub s.ws.length ubc : Value).ownBlock = some b ∨ (.slice uc s.ss.length ucc : Value).ownBlock = some b → b ≠ yb := by
          rintro b (h | h | h)
          · have := (World.ownsRow.lt r3.n b h).1; omega
          · have := (World.ownsRow.lt r3.ws b h).1; omega
          · have := (World.ownsRow.lt r3.ss b h).1; omega
        replace CY := C3.below CY hbR
        replace hyl := Nat.lt_of_lt_of_le hyl hbR.size
        refine hK.out _ _ (Below.then hHeld hbR hHeld.size) (fun hHeld => ?_)
        clear hK K
        refine' wpAnyH_take (i := 6) (v := _) rfl (by kernel_rfl) (by kernel_rfl) (by kernel_rfl) (fun _ _ _ h => h) (Or.inl ⟨by rfl, ?hy913⟩) hHeld ?hn913
        case hy913 => (intro wz hSw; go_simp; first | done | with_reducible rfl)
        try simp only [List.getElem_toArray, List.getElem_cons_zero, List.getElem_cons_succ, Act.put, List.setIfInBounds_toArray, List.set_cons_zero, List.set_cons_succ]
        refine' wpAnyH_take (i := 7) (v := _) rfl (by kernel_rfl) (by kernel_rfl) (by kernel_rfl) (fun _ _ _ h => h) (Or.inl ⟨by rfl, ?hy914⟩) hHeld ?hn914
        case hy914 => (intro wz hSw; go_simp; first | done | with_reducible rfl)
        try simp only [List.getElem_toArray, List.getElem_cons_zero, List.getElem_cons_succ, Act.put, List.setIfInBounds_toArray, List.set_cons_zero, List.set_cons_succ]
        refine' wpAnyH_take (i := 8) (v := _) rfl (by kernel_rfl) (by kernel_rfl) (by kernel_rfl) (fun _ _ _ h => h) (Or.inl ⟨by rfl, ?hy915⟩) hHeld ?hn915
        case hy915 => (intro wz hSw; go_simp; first | done | with_reducible rfl)
        try simp only [List.getElem_toArray, List.getElem_cons_zero, List.getElem_cons_succ, Act.put, List.setIfInBounds_toArray, List.set_cons_zero, List.set_cons_succ]
        refine wpAnyH_ready (rs := [10]) (by kernel_rfl) (by simp) ?_
        refine AllReadyH.cons rfl (fun K hK => ?_) AllReadyH.nil
        obtain ⟨⟨c0, c1, c2⟩, f0, f1, f2⟩ := id CY
        have GY : C3 ((((wR).setCell ⟨yb, 0, none⟩ (.slice ua s.n.length uac)).setCell ⟨yb, 1, none⟩ (.slice ub s.ws.length ubc)).setCell ⟨yb, 2, none⟩ (.slice uc s.ss.length ucc)) yb (.slice ua s.n.length uac) (.slice ub s.ws.length ubc) (.slice uc s.ss.length ucc) := ((CY.set0 _).set1 _).set2 _
        have RY := ((r3.far ⟨yb, 0, none⟩ (.slice ua s.n.length uac) (fun h => hne _ (.inl h) rfl) (fun h => hne _ (.inr (.inl h)) rfl) (fun h => hne _ (.inr (.inr h)) rfl)).far ⟨yb, 1, none⟩ (.slice ub s.ws.length ubc) (fun h => hne _ (.inl h) rfl) (fun h => hne _ (.inr (.inl h)) rfl) (fun h => hne _ (.inr (.inr h)) rfl)).far ⟨yb, 2, none⟩ (.slice uc s.ss.length ucc) (fun h => hne _ (.inl h) rfl) (fun h => hne _ (.inr (.inl h)) rfl) (fun h => hne _ (.inr (.inr h)) rfl)
        have BY : Below w8.heap.size w8 ((((wR).setCell ⟨yb, 0, none⟩ (.slice ua s.n.length uac)).setCell ⟨yb, 1, none⟩ (.slice ub s.ws.length ubc)).setCell ⟨yb, 2, none⟩ (.slice uc s.ss.length ucc)) := ((hHeld.setCell hy8 _).setCell hy8 _).setCell hy8 _
        clear CY hO
        go_simp
        clear c0 c1 c2 f0 f1 f2
        generalize (((wR).setCell ⟨yb, 0, none⟩ (.slice ua s.n.length uac)).setCell ⟨yb, 1, none⟩ (.slice ub s.ws.length ubc)).setCell ⟨yb, 2, none⟩ (.slice uc s.ss.length ucc) = wF at GY RY BY ⊢
        refine hK.out _ _ (BY) (fun hHeld => ?_)
        clear hK K
        refine' wpAnyH_take (i := 11) (v := _) rfl (by kernel_rfl) (by kernel_rfl) (by kernel_rfl) (fun _ _ _ h => h) (Or.inl ⟨by rfl, ?hy916⟩) hHeld ?hn916
        case hy916 => (intro wz hSw; go_simp; first | done | with_reducible rfl)
        try simp only [List.getElem_toArray, List.getElem_cons_zero, List.getElem_cons_succ, Act.put, List.setIfInBounds_toArray, List.set_cons_zero, List.set_cons_succ]
        refine wpAnyH_done (by kernel_rfl) ?_ _
        clear hHeld
        have HRF : Hid (Ran wF w1.heap.size w5.heap.size (.slice la ls.length lc) (.slice sa (ln (d + 1) (l : List (Pay × Tr d × Tr d))) sc) (.slice (some ad) zs.length nc) (.slice xa rs.n.length xac) (.slice xb rs.ws.length xbc) (.slice xc rs.ss.length xcc) ls d l zs rs) := HR8.out.below BY
        have HYF : Hid (GRep (Value.int .i64) wF (.slice ua s.n.length uac) s.n ∧ LRep wF (.slice ub s.ws.length ubc) s.ws ∧ LRep wF (.slice uc s.ss.length ucc) s.ss) := RY.reps
        have HKF : Hid (GRep Value.bool wF kv (knowL ls h)) := HK8.out.below BY
        have HBF : Hid (Below w8.heap.size w8 wF) := BY
        obtain ⟨⟨kx0, kx1, kx2⟩, -⟩ := HRF.out.x
        obtain ⟨⟨ky0, ky1, ky2⟩, -⟩ := GY
        clear RY BY r3 hne
        go_wp2_with fail
        refine wp_region_held (S := (fun wz => Below wF.heap.size wF wz)) (by kernel_rfl) ?_
        change wpAnyH _ _ _ _ _ _ _ _ (World.drew _)
        have hHeld := (Below.refl wF.heap.size wF).drew
        refine' wpAnyH_take (i := 0) (v := _) rfl (by kernel_rfl) (by kernel_rfl) (by kernel_rfl) (fun _ _ _ h => h) (Or.inl ⟨by rfl, ?hy3x2001⟩) hHeld ?hn3x2001
        case hy3x2001 => (intro wz hSw; (try dsimp only at hSw); go_simp; first | done | with_reducible rfl)
        try simp only [List.getElem_toArray, List.getElem_cons_zero, List.getElem_cons_succ, Act.put, List.setIfInBounds_toArray, List.set_cons_zero, List.set_cons_succ]
        refine' wpAnyH_take (i := 1) (v := _) rfl (by kernel_rfl) (by kernel_rfl) (by kernel_rfl) (fun _ _ _ h => h) (Or.inl ⟨by rfl, ?hy3x2002⟩) hHeld ?hn3x2002
        case hy3x2002 => (intro wz hSw; (try dsimp only at hSw); go_simp; first | done | with_reducible rfl)
        try simp only [List.getElem_toArray, List.getElem_cons_zero, List.getElem_cons_succ, Act.put, List.setIfInBounds_toArray, List.set_cons_zero, List.set_cons_succ]
        refine' wpAnyH_take (i := 2) (v := _) rfl (by kernel_rfl) (by kernel_rfl) (by kernel_rfl) (fun _ _ _ h => h) (Or.inl ⟨by rfl, ?hy3x2003⟩) hHeld ?hn3x2003
        case hy3x2003 => (intro wz hSw; (try dsimp only at hSw); go_simp; first | done | with_reducible rfl)
        try simp only [List.getElem_toArray, List.getElem_cons_zero, List.getElem_cons_succ, Act.put, List.setIfInBounds_toArray, List.set_cons_zero, List.set_cons_succ]
        refine' wpAnyH_take (i := 3) (v := (.agg #[.slice xa rs.n.length xac, .slice xb rs.ws.length xbc, .slice xc rs.ss.length xcc])) rfl (by kernel_rfl) (by kernel_rfl) (by kernel_rfl) (fun _ _ _ h => h) (Or.inl ⟨by rfl, ?hy3x2004⟩) hHeld ?hn3x2004
        case hy3x2004 => (intro wz hSw; have k0 := cell_later hSw kx0; have k1 := cell_later hSw kx1; have k2 := cell_later hSw kx2; go_simp)
        try simp only [List.getElem_toArray, List.getElem_cons_zero, List.getElem_cons_succ, Act.put, List.setIfInBounds_toArray, List.set_cons_zero, List.set_cons_succ]
        refine' wpAnyH_take (i := 4) (v := _) rfl (by kernel_rfl) (by kernel_rfl) (by kernel_rfl) (fun _ _ _ h => h) (Or.inl ⟨by rfl, ?hy3x2005⟩) hHeld ?hn3x2005
        case hy3x2005 => (intro wz hSw; (try dsimp only at hSw); go_simp; first | done | with_reducible rfl)
        try simp only [List.getElem_toArray, List.getElem_cons_zero, List.getElem_cons_succ, Act.put, List.setIfInBounds_toArray, List.set_cons_zero, List.set_cons_succ]
        refine' wpAnyH_take (i := 6) (v := (.agg #[.slice ua s.n.length uac, .slice ub s.ws.length ubc, .slice uc s.ss.length ucc])) rfl (by kernel_rfl) (by kernel_rfl) (by kernel_rfl) (fun _ _ _ h => h) (Or.inl ⟨by rfl, ?hy3x2006⟩) hHeld ?hn3x2006
        case hy3x2006 => (intro wz hSw; have k0 := cell_later hSw ky0; have k1 := cell_later hSw ky1; have k2 := cell_later hSw ky2; go_simp)
        try simp only [List.getElem_toArray, List.getElem_cons_zero, List.getElem_cons_succ, Act.put, List.setIfInBounds_toArray, List.set_cons_zero, List.set_cons_succ]
        refine' wpAnyH_take (i := 7) (v := _) rfl (by kernel_rfl) (by kernel_rfl) (by kernel_rfl) (fun _ _ _ h => h) (Or.inl ⟨by rfl, ?hy3x2007⟩) hHeld ?hn3x2007
        case hy3x2007 => (intro wz hSw; (try dsimp only at hSw); go_simp; first | done | with_reducible rfl)
        try simp only [List.getElem_toArray, List.getElem_cons_zero, List.getElem_cons_succ, Act.put, List.setIfInBounds_toArray, List.set_cons_zero, List.set_cons_succ]
        refine wpAnyH_ready (rs := [5]) (by kernel_rfl) (by simp) ?_
        refine AllReadyH.cons rfl (fun K hK => ?_) AllReadyH.nil
        go_simp
        refine Calls.mono (runTo_any _ (HRF.out.xs.below hHeld) (by have := HLX.out; omega)) ?_; rintro e' w9 ⟨t1, _, rfl, hbx, o1, -⟩; have q1 := o1.rep; clear o1
        refine hK.out _ _ (Below.then hHeld hbx hHeld.size) (fun hHeld => ?_)
        clear hK K
        refine wpAnyH_ready (rs := [8]) (by kernel_rfl) (by simp) ?_
        refine AllReadyH.cons rfl (fun K hK => ?_) AllReadyH.nil
        go_simp
        refine Calls.mono (runTo_any _ (HYF.out.2.2.below hHeld) (by have := HLY.out; omega)) ?_; rintro e' w9 ⟨t2, _, rfl, hbx, o2, -⟩; have q2 := o2.rep; replace q1 := q1.below hbx; clear o2
        refine hK.out _ _ (Below.then hHeld hbx hHeld.size) (fun hHeld => ?_)
        clear hK K
        refine wpAnyH_ready (rs := [9]) (by kernel_rfl) (by simp) ?_
        refine AllReadyH.cons rfl (fun K hK => ?_) AllReadyH.nil
        go_simp
        have KI := lcInts_any q1 q2; rw [decide_eq_true HE1.out] at KI; refine Calls.mono KI ?_; rintro e' w9 ⟨rfl, hbx⟩; clear KI q1 q2
        refine hK.out _ _ (Below.then hHeld hbx hHeld.size) (fun hHeld => ?_)
        clear hK K
        refine' wpAnyH_take (i := 10) (v := _) rfl (by kernel_rfl) (by kernel_rfl) (by kernel_rfl) (fun _ _ _ h => h) (Or.inl ⟨by rfl, ?hy3x2008⟩) hHeld ?hn3x2008
        case hy3x2008 => (intro wz hSw; (try dsimp only at hSw); go_simp; first | done | with_reducible rfl)
        try simp only [List.getElem_toArray, List.getElem_cons_zero, List.getElem_cons_succ, Act.put, List.setIfInBounds_toArray, List.set_cons_zero, List.set_cons_succ]
        refine' wpAnyH_take (i := 11) (v := _) rfl (by kernel_rfl) (by kernel_rfl) (by kernel_rfl) (fun _ _ _ h => h) (Or.inl ⟨by rfl, ?hy3x2009⟩) hHeld ?hn3x2009
        case hy3x2009 => (intro wz hSw; (try dsimp only at hSw); go_simp; first | done | with_reducible rfl)
        try simp only [List.getElem_toArray, List.getElem_cons_zero, List.getElem_cons_succ, Act.put, List.setIfInBounds_toArray, List.set_cons_zero, List.set_cons_succ]
        refine' wpAnyH_take (i := 12) (v := _) rfl (by kernel_rfl) (by kernel_rfl) (by kernel_rfl) (fun _ _ _ h => h) (Or.inl ⟨by rfl, ?hy3x2010⟩) hHeld ?hn3x2010
        case hy3x2010 => (intro wz hSw; (try dsimp only at hSw); go_simp; first | done | with_reducible rfl)
        try simp only [List.getElem_toArray, List.getElem_cons_zero, List.getElem_cons_succ, Act.put, List.setIfInBounds_toArray, List.set_cons_zero, List.set_cons_succ]
        refine' wpAnyH_take (i := 13) (v := _) rfl (by kernel_rfl) (by kernel_rfl) (by kernel_rfl) (fun _ _ _ h => h) (Or.inl ⟨by rfl, ?hy3x2011⟩) hHeld ?hn3x2011
        case hy3x2011 => (intro wz hSw; (try dsimp only at hSw); go_simp; first | done | with_reducible rfl)
        try simp only [List.getElem_toArray, List.getElem_cons_zero, List.getElem_cons_succ, Act.put, List.setIfInBounds_toArray, List.set_cons_zero, List.set_cons_succ]
        refine' wpAnyH_take (i := 14) (v := (.slice xa rs.n.length xac)) rfl (by kernel_rfl) (by kernel_rfl) (by kernel_rfl) (fun _ _ _ h => h) (Or.inl ⟨by rfl, ?hy3x2012⟩) hHeld ?hn3x2012
        case hy3x2012 => (intro wz hSw; have k0 := cell_later hSw kx0; go_simp)
        try simp only [List.getElem_toArray, List.getElem_cons_zero, List.getElem_cons_succ, Act.put, List.setIfInBounds_toArray, List.set_cons_zero, List.set_cons_succ]
        refine' wpAnyH_take (i := 15) (v := _) rfl (by kernel_rfl) (by kernel_rfl) (by kernel_rfl) (fun _ _ _ h => h) (Or.inl ⟨by rfl, ?hy3x2013⟩) hHeld ?hn3x2013
        case hy3x2013 => (intro wz hSw; (try dsimp only at hSw); go_simp; first | done | with_reducible rfl)
        try simp only [List.getElem_toArray, List.getElem_cons_zero, List.getElem_cons_succ, Act.put, List.setIfInBounds_toArray, List.set_cons_zero, List.set_cons_succ]
        refine' wpAnyH_take (i := 16) (v := (.slice ua s.n.length uac)) rfl (by kernel_rfl) (by kernel_rfl) (by kernel_rfl) (fun _ _ _ h => h) (Or.inl ⟨by rfl, ?hy3x2014⟩) hHeld ?hn3x2014
        case hy3x2014 => (intro wz hSw; have k0 := cell_later hSw ky0; go_simp)
        try simp only [List.getElem_toArray, List.getElem_cons_zero, List.getElem_cons_succ, Act.put, List.setIfInBounds_toArray, List.set_cons_zero, List.set_cons_succ]
        refine' wpAnyH_take (i := 17) (v := _) rfl (by kernel_rfl) (by kernel_rfl) (by kernel_rfl) (fun _ _ _ h => h) (Or.inl ⟨by rfl, ?hy3x2015⟩) hHeld ?hn3x2015
        case hy3x2015 => (intro wz hSw; (try dsimp only at hSw); go_simp; first | done | with_reducible rfl)
        try simp only [List.getElem_toArray, List.getElem_cons_zero, List.getElem_cons_succ, Act.put, List.setIfInBounds_toArray, List.set_cons_zero, List.set_cons_succ]
        refine wpAnyH_ready (rs := [18]) (by kernel_rfl) (by simp) ?_
        refine AllReadyH.cons rfl (fun K hK => ?_) AllReadyH.nil
        go_simp
        refine Calls.mono (lcSameOf_true (HRF.out.xn.below hHeld) (HYF.out.1.below hHeld) (HKF.out.below hHeld) HNL.out HKL.out HE2.out) ?_; rintro e' w9 ⟨rfl, hbx⟩
        refine hK.out _ _ (Below.then hHeld hbx hHeld.size) (fun hHeld => ?_)
        clear hK K
        refine' wpAnyH_take (i := 19) (v := _) rfl (by kernel_rfl) (by kernel_rfl) (by kernel_rfl) (fun _ _ _ h => h) (Or.inl ⟨by rfl, ?hy3x2016⟩) hHeld ?hn3x2016
        case hy3x2016 => (intro wz hSw; (try dsimp only at hSw); go_simp; first | done | with_reducible rfl)
        try simp only [List.getElem_toArray, List.getElem_cons_zero, List.getElem_cons_succ, Act.put, List.setIfInBounds_toArray, List.set_cons_zero, List.set_cons_succ]
        refine' wpAnyH_take (i := 20) (v := _) rfl (by kernel_rfl) (by kernel_rfl) (by kernel_rfl) (fun _ _ _ h => h) (Or.inl ⟨by rfl, ?hy3x2017⟩) hHeld ?hn3x2017
        case hy3x2017 => (intro wz hSw; (try dsimp only at hSw); go_simp; first | done | with_reducible rfl)
        try simp only [List.getElem_toArray, List.getElem_cons_zero, List.getElem_cons_succ, Act.put, List.setIfInBounds_toArray, List.set_cons_zero, List.set_cons_succ]
        refine' wpAnyH_take (i := 21) (v := _) rfl (by kernel_rfl) (by kernel_rfl) (by kernel_rfl) (fun _ _ _ h => h) (Or.inl ⟨by rfl, ?hy3x2018⟩) hHeld ?hn3x2018
        case hy3x2018 => (intro wz hSw; (try dsimp only at hSw); go_simp; first | done | with_reducible rfl)
        try simp only [List.getElem_toArray, List.getElem_cons_zero, List.getElem_cons_succ, Act.put, List.setIfInBounds_toArray, List.set_cons_zero, List.set_cons_succ]
        refine' wpAnyH_take (i := 22) (v := (.agg #[.slice xa rs.n.length xac, .slice xb rs.ws.length xbc, .slice xc rs.ss.length xcc])) rfl (by kernel_rfl) (by kernel_rfl) (by kernel_rfl) (fun _ _ _ h => h) (Or.inl ⟨by rfl, ?hy3x2019⟩) hHeld ?hn3x2019
        case hy3x2019 => (intro wz hSw; have k0 := cell_later hSw kx0; have k1 := cell_later hSw kx1; have k2 := cell_later hSw kx2; go_simp)
        try simp only [List.getElem_toArray, List.getElem_cons_zero, List.getElem_cons_succ, Act.put, List.setIfInBounds_toArray, List.set_cons_zero, List.set_cons_succ]
        refine' wpAnyH_take (i := 23) (v := _) rfl (by kernel_rfl) (by kernel_rfl) (by kernel_rfl) (fun _ _ _ h => h) (Or.inl ⟨by rfl, ?hy3x2020⟩) hHeld ?hn3x2020
        case hy3x2020 => (intro wz hSw; (try dsimp only at hSw); go_simp; first | done | with_reducible rfl)
        try simp only [List.getElem_toArray, List.getElem_cons_zero, List.getElem_cons_succ, Act.put, List.setIfInBounds_toArray, List.set_cons_zero, List.set_cons_succ]
        refine' wpAnyH_take (i := 25) (v := (.agg #[.slice ua s.n.length uac, .slice ub s.ws.length ubc, .slice uc s.ss.length ucc])) rfl (by kernel_rfl) (by kernel_rfl) (by kernel_rfl) (fun _ _ _ h => h) (Or.inl ⟨by rfl, ?hy3x2021⟩) hHeld ?hn3x2021
        case hy3x2021 => (intro wz hSw; have k0 := cell_later hSw ky0; have k1 := cell_later hSw ky1; have k2 := cell_later hSw ky2; go_simp)
        try simp only [List.getElem_toArray, List.getElem_cons_zero, List.getElem_cons_succ, Act.put, List.setIfInBounds_toArray, List.set_cons_zero, List.set_cons_succ]
        refine' wpAnyH_take (i := 26) (v := _) rfl (by kernel_rfl) (by kernel_rfl) (by kernel_rfl) (fun _ _ _ h => h) (Or.inl ⟨by rfl, ?hy3x2022⟩) hHeld ?hn3x2022
        case hy3x2022 => (intro wz hSw; (try dsimp only at hSw); go_simp; first | done | with_reducible rfl)
        try simp only [List.getElem_toArray, List.getElem_cons_zero, List.getElem_cons_succ, Act.put, List.setIfInBounds_toArray, List.set_cons_zero, List.set_cons_succ]
        refine wpAnyH_ready (rs := [24]) (by kernel_rfl) (by simp) ?_
        refine AllReadyH.cons rfl (fun K hK => ?_) AllReadyH.nil
        go_simp
        refine Calls.mono (runSets_any (HRF.out.xw.below hHeld) (HKF.out.below hHeld) (by have := HLX.out; omega)) ?_; rintro e' w9 ⟨t3, _, rfl, hbx, o3, -⟩; have q3 := o3.rep; clear o3
        refine hK.out _ _ (Below.then hHeld hbx hHeld.size) (fun hHeld => ?_)
        clear hK K
        refine wpAnyH_ready (rs := [27]) (by kernel_rfl) (by simp) ?_
        refine AllReadyH.cons rfl (fun K hK => ?_) AllReadyH.nil
        go_simp
        refine Calls.mono (runSets_any (HYF.out.2.1.below hHeld) (HKF.out.below hHeld) (by have := HLY.out; omega)) ?_; rintro e' w9 ⟨t4, _, rfl, hbx, o4, -⟩; have q4 := o4.rep; replace q3 := q3.below hbx; clear o4
        refine hK.out _ _ (Below.then hHeld hbx hHeld.size) (fun hHeld => ?_)
        clear hK K
        refine wpAnyH_ready (rs := [28]) (by kernel_rfl) (by simp) ?_
        refine AllReadyH.cons rfl (fun K hK => ?_) AllReadyH.nil
        go_simp
        have KI := lcWrites_any q3 q4; rw [decide_eq_true HE3.out] at KI; refine Calls.mono KI ?_; rintro e' w9 ⟨rfl, hbx⟩; clear KI q3 q4
        refine hK.out _ _ (Below.then hHeld hbx hHeld.size) (fun hHeld => ?_)
        clear hK K
        refine' wpAnyH_take (i := 29) (v := _) rfl (by kernel_rfl) (by kernel_rfl) (by kernel_rfl) (fun _ _ _ h => h) (Or.inl ⟨by rfl, ?hy3x2023⟩) hHeld ?hn3x2023
        case hy3x2023 => (intro wz hSw; (try dsimp only at hSw); go_simp; first | done | with_reducible rfl)
        try simp only [List.getElem_toArray, List.getElem_cons_zero, List.getElem_cons_succ, Act.put, List.setIfInBounds_toArray, List.set_cons_zero, List.set_cons_succ]
        refine' wpAnyH_take (i := 30) (v := _) rfl (by kernel_rfl) (by kernel_rfl) (by kernel_rfl) (fun _ _ _ h => h) (Or.inl ⟨by rfl, ?hy3x2024⟩) hHeld ?hn3x2024
        case hy3x2024 => (intro wz hSw; (try dsimp only at hSw); go_simp; first | done | with_reducible rfl)
        try simp only [List.getElem_toArray, List.getElem_cons_zero, List.getElem_cons_succ, Act.put, List.setIfInBounds_toArray, List.set_cons_zero, List.set_cons_succ]
        refine wpAnyH_done (by kernel_rfl) ?_ _
        have HBq : Hid (Below wt.heap.size wt _) := Below.then HB8.out (Below.then HBF.out hHeld HBF.out.size) HB8.out.size
        clear hHeld
        go_wp2
        exact ⟨⟨h + 1, by omega, by simp, HBq.out⟩, by simp [intOf]; omega⟩
    · have HBR : Hid (Below wt.heap.size wt wr) := hbr
      have : h = 3 := by omega
      subst this
      clear hbr
      go_wp2
      go_ret
      exact ⟨rfl, Below.then HBt.out HBR.out HBt.out.size⟩

end Go.Proofs.Ytepacahfpbedoaa
