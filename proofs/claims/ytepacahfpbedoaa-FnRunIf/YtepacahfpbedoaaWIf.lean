/- By a number other than 0 some steps are done, else others: the law, walked. -/
import Derived.Test.YtepacahfpbedoaaPrl
import Derived.Test.YtepacahfpbedoaaLcx
import Derived.Test.YtepacahfpbedoaaLco
import Derived.Test.YtepacahfpbedoaaSml
namespace Go.Proofs.Ytepacahfpbedoaa
open Go.RowKit
set_option linter.unusedSimpArgs false
set_option linter.unusedVariables false
attribute [local go_sem ↓] Go.wp_at_zero Go.wp_at_succ
attribute [local go_sem] World.cell?_alloc_some

theorem cnt_oneT {d : Nat} (v : Int) (T : Tr d) : cnt (d + 1) (oneT v T) = 1 + cnt d T := by simp [oneT, cnt, cnt_noT]

set_option maxHeartbeats 8000000 in
set_option maxRecDepth 20000 in
theorem fnRunIf_walk (a0 : Option Addr) (len0 cap0 : Nat) (z0 : List Int) (a1 : Option Addr) (len1 cap1 : Nat) (z1 : List Int) (w : World) (h0 : IsRow .u8 w a0 len0 cap0 z0) (h1 : IsRow .u8 w a1 len1 cap1 z1) :
    Calls Try.prog 8 #[.slice a0 len0 cap0, .slice a1 len1 cap1] w fun e w' => e = .returned (.bool true) ∧ Below w.heap.size w w' := by
  by_cases hl0 : (1048576 : Int) < (len0 : Int)
  · go_enter Try.func8, Try.ntmps8
    go_wp2
    go_ret
    exact ⟨rfl, Below.refl _ _⟩
  by_cases hl1 : (1048576 : Int) < (len1 : Int)
  · go_enter Try.func8, Try.ntmps8
    go_wp2
    go_ret
    exact ⟨rfl, Below.refl _ _⟩
  have hrow1 : len1 ≤ maxLen := (by unfold maxLen; omega)
  have C1 : Hid _ := drawRunOf_any w a0 len0 cap0 z0 h0
  clear h0 h1
  go_enter Try.func8, Try.ntmps8
  go_wp2_with fail
  go_at_call 16; refine Calls.mono C1.out ?_
  rintro e w1 ⟨lv, sv, nv, ls, d, l, zs, rfl, hLp, hRp, ⟨hN, ad, nc, rfl, -⟩, ll, cn, hb1⟩
  have hL := hLp.rep
  have hR := hRp.rep
  obtain ⟨la, lc, rfl, -⟩ := id hL
  obtain ⟨sa, sc, rfl⟩ := hR.slice
  have HLR : Hid (∀ wz, Below w1.heap.size w1 wz → LRep wz (.slice la ls.length lc) ls ∧ Rep wz (d + 1) (.slice sa (ln (d + 1) (l : List (Pay × Tr d × Tr d))) sc) (l : List (Pay × Tr d × Tr d)) ∧ GRep (Value.int .i64) wz (.slice (some ad) zs.length nc) zs) := (show ∀ wz, _ from fun wz hb => ⟨hL.below hb, hR.below hb, hN.below hb⟩)
  have HB1 : Hid (Below w.heap.size w w1) := hb1
  have A : Below w1.heap.size w1 (w1.alloc (.cells #[.slice la ls.length lc, .slice sa (ln (d + 1) (l : List (Pay × Tr d × Tr d))) sc] 26)) := (Below.refl _ _).alloc (Nat.le_refl _) _
  have G2 := C2.new w1 (.slice la ls.length lc) (.slice sa (ln (d + 1) (l : List (Pay × Tr d × Tr d))) sc) 26
  generalize hw2 : w1.alloc (.cells #[.slice la ls.length lc, .slice sa (ln (d + 1) (l : List (Pay × Tr d × Tr d))) sc] 26) = w2 at A G2
  have HW2 : Hid _ := hw2
  have HA : Hid (Below w1.heap.size w1 w2) := A
  have K2 : Hid _ := sRunOf_any (HLR.out w2 A).1 (HLR.out w2 A).2.1 (by omega) (HLR.out w2 A).2.2
  have HG2 : Hid (C2 w2 w1.heap.size (.slice la ls.length lc) (.slice sa (ln (d + 1) (l : List (Pay × Tr d × Tr d))) sc)) := G2
  obtain ⟨nb, hnb⟩ : ∃ nb, numsB ls (d + 1) (l : List (Pay × Tr d × Tr d)) zs = nb := ⟨_, rfl⟩
  obtain ⟨rs, hrs⟩ : ∃ rs, runS ls (d + 1) (l : List (Pay × Tr d × Tr d)) zs = rs := ⟨_, rfl⟩
  rw [hnb, hrs] at K2
  have HNB : Hid _ := hnb
  have HRS : Hid _ := hrs
  clear hLp hRp hb1 C1 A G2 hw2 hnb hrs hL hR hN
  go_wp2_with fail
  rw [HW2.out]
  go_at_call 17; refine Calls.mono K2.out ?_
  rintro e w3 ⟨vya, vyb, vyc, rfl, hb3, r3⟩
  obtain ⟨ya, yac, ha⟩ := rowg_slice r3.n
  obtain ⟨yb, ybc, hb⟩ := rowg_slice r3.ws
  obtain ⟨yc, ycc, hc⟩ := rowg_slice r3.ss
  subst ha hb hc
  have HB3 : Hid (Below w1.heap.size w1 w3) := Below.then HA.out hb3 HA.out.size
  have z2 : w1.heap.size < w2.heap.size := C2.lt' HG2.out
  have z3 : w1.heap.size < w3.heap.size := by have := hb3.size; omega
  have G3 := HG2.out.same (hb3.block _ z2)
  have HG3 : Hid (C2 w3 w1.heap.size (.slice la ls.length lc) (.slice sa (ln (d + 1) (l : List (Pay × Tr d × Tr d))) sc)) := G3
  have HY3 : Hid (GRep (Value.int .i64) w3 (.slice ya rs.n.length yac) rs.n ∧ LRep w3 (.slice yb rs.ws.length ybc) rs.ws ∧ LRep w3 (.slice yc rs.ss.length ycc) rs.ss) := r3.reps
  have A4 : Below w3.heap.size w3 (w3.alloc (.cells #[.slice ya rs.n.length yac, .slice yb rs.ws.length ybc, .slice yc rs.ss.length ycc] 44)) := (Below.refl _ _).alloc (Nat.le_refl _) _
  have G4 := C3.new w3 (.slice ya rs.n.length yac) (.slice yb rs.ws.length ybc) (.slice yc rs.ss.length ycc) 44
  generalize hw4 : w3.alloc (.cells #[.slice ya rs.n.length yac, .slice yb rs.ws.length ybc, .slice yc rs.ss.length ycc] 44) = w4 at A4 G4
  have HW4 : Hid _ := hw4
  have HG4 : Hid (C3 w4 w3.heap.size (.slice ya rs.n.length yac) (.slice yb rs.ws.length ybc) (.slice yc rs.ss.length ycc)) := G4
  have HA4 : Hid (Below w3.heap.size w3 w4) := A4
  have HB4 : Hid (Below w1.heap.size w1 w4) := Below.then HB3.out A4 HB3.out.size
  have K4 : Hid _ := runOf_any (HLR.out w4 HB4.out).1 (HLR.out w4 HB4.out).2.1 (HLR.out w4 HB4.out).2.2
  rw [HNB.out, HRS.out] at K4
  obtain ⟨⟨p0, p1⟩, -⟩ := G3
  clear hb3 K2 HG2 HA HW2 z2 r3 A4 G4 hw4
  go_wp2_with fail
  rw [HW4.out]
  go_at_call 18; refine Calls.mono K4.out ?_
  rintro e w5 ⟨vxa, vxb, vxc, rfl, hb5, r5⟩
  obtain ⟨xa, xac, ha⟩ := rowg_slice r5.n
  obtain ⟨xb, xbc, hb⟩ := rowg_slice r5.ws
  obtain ⟨xc, xcc, hc⟩ := rowg_slice r5.ss
  subst ha hb hc
  clear p0 p1
  have HB45 : Hid (Below w4.heap.size w4 w5) := hb5
  have HB35 : Hid (Below w3.heap.size w3 w5) := Below.then HA4.out hb5 HA4.out.size
  have HB5 : Hid (Below w1.heap.size w1 w5) := Below.then HB4.out hb5 HB4.out.size
  have HX5 : Hid (GRep (Value.int .i64) w5 (.slice xa rs.n.length xac) rs.n ∧ LRep w5 (.slice xb rs.ws.length xbc) rs.ws ∧ LRep w5 (.slice xc rs.ss.length xcc) rs.ss) := r5.reps
  have G5 : C3 w5 w3.heap.size (.slice ya rs.n.length yac) (.slice yb rs.ws.length ybc) (.slice yc rs.ss.length ycc) := HG4.out.below hb5
  have HG5 : Hid (C3 w5 w3.heap.size (.slice ya rs.n.length yac) (.slice yb rs.ws.length ybc) (.slice yc rs.ss.length ycc)) := G5
  have z5 : w3.heap.size < w5.heap.size := C3.lt G5
  have A6 : Below w5.heap.size w5 (w5.alloc (.cells #[.slice xa rs.n.length xac, .slice xb rs.ws.length xbc, .slice xc rs.ss.length xcc] 44)) := (Below.refl _ _).alloc (Nat.le_refl _) _
  have G6 := C3.new w5 (.slice xa rs.n.length xac) (.slice xb rs.ws.length xbc) (.slice xc rs.ss.length xcc) 44
  generalize hw6 : w5.alloc (.cells #[.slice xa rs.n.length xac, .slice xb rs.ws.length xbc, .slice xc rs.ss.length xcc] 44) = w6 at A6 G6
  have HW6 : Hid _ := hw6
  have HG6 : Hid (C3 w6 w5.heap.size (.slice xa rs.n.length xac) (.slice xb rs.ws.length xbc) (.slice xc rs.ss.length xcc)) := G6
  have HA6 : Hid (Below w5.heap.size w5 w6) := A6
  have HB6 : Hid (Below w1.heap.size w1 w6) := Below.then HB5.out A6 HB5.out.size
  have HB36 : Hid (Below w3.heap.size w3 w6) := Below.then HB35.out A6 HB35.out.size
  have K6 : Hid _ := lcRun_same (HX5.out.1.below A6) (HX5.out.2.1.below A6) (HX5.out.2.2.below A6) (HY3.out.1.below HB36.out) (HY3.out.2.1.below HB36.out) (HY3.out.2.2.below HB36.out)
  obtain ⟨⟨y0, y1, y2⟩, -⟩ := G5
  clear hb5 K4 HW4 r5 A6 G6 hw6 HB35
  cases nb
  · go_wp2_with fail
    rw [HW6.out]
    go_at_call 19; refine Calls.mono K6.out ?_
    rintro e w7 ⟨rfl, hb7⟩
    have HB7 : Hid (Below w1.heap.size w1 w7) := Below.then HB6.out hb7 HB6.out.size
    have HB57 : Hid (Below w5.heap.size w5 w7) := Below.then HA6.out hb7 HA6.out.size
    have HB37 : Hid (Below w3.heap.size w3 w7) := Below.then HB36.out hb7 HB36.out.size
    obtain ⟨⟨x0, x1, x2⟩, -⟩ := C3.below HG6.out hb7
    obtain ⟨⟨v0, v1, v2⟩, -⟩ := C3.below HG5.out HB57.out
    have K7 : Hid _ := lcRun_same (HX5.out.1.below HB57.out) (HX5.out.2.1.below HB57.out) (HX5.out.2.2.below HB57.out) (HY3.out.1.below HB37.out) (HY3.out.2.1.below HB37.out) (HY3.out.2.2.below HB37.out)
    clear hb7 y0 y1 y2 K6
    go_wp2_with fail
    go_at_call 19; refine Calls.mono K7.out ?_
    rintro e w8 ⟨rfl, hb8⟩
    have HB8 : Hid (Below w.heap.size w w8) := Below.then HB1.out (Below.then HB7.out hb8 HB7.out.size) HB1.out.size
    clear hb8 x0 x1 x2 v0 v1 v2 K7
    go_wp2
    go_ret
    exact ⟨rfl, HB8.out⟩
  go_wp2_with fail
  rw [HW6.out]
  go_at_call 19; refine Calls.mono K6.out ?_
  rintro e w7 ⟨rfl, hb7⟩
  have HB7 : Hid (Below w.heap.size w w7) := Below.then HB1.out (Below.then HB6.out hb7 HB6.out.size) HB1.out.size
  have HB57 : Hid (Below w5.heap.size w5 w7) := Below.then HA6.out hb7 HA6.out.size
  have HB17 : Hid (Below w1.heap.size w1 w7) := Below.then HB6.out hb7 HB6.out.size
  have HR7 : Hid (Ran w7 w1.heap.size w5.heap.size (.slice la ls.length lc) (.slice sa (ln (d + 1) (l : List (Pay × Tr d × Tr d))) sc) (.slice (some ad) zs.length nc) (.slice xa rs.n.length xac) (.slice xb rs.ws.length xbc) (.slice xc rs.ss.length xcc) ls d l zs rs) := ⟨(HLR.out w7 HB17.out).1, (HLR.out w7 HB17.out).2.1, (HLR.out w7 HB17.out).2.2, HG3.out.same ((HB57.out.block _ (by omega)).trans ((HB45.out.block _ (Nat.lt_of_lt_of_le z3 HA4.out.size)).trans (HA4.out.block _ z3))), C3.below HG6.out hb7, HX5.out.1.below HB57.out, HX5.out.2.1.below HB57.out, HX5.out.2.2.below HB57.out⟩
  have HDO : Hid (rs = doT (d + 1) (l : List (Pay × Tr d × Tr d)) ⟨zs, [], []⟩) := (show rs = _ by rw [← HRS.out]; unfold runS; rw [HNB.out]; rfl)
  clear hb7 y0 y1 y2 K6 HW6 HG6 HA6 HB6 HB36 HG5 HB57 HB17 HX5 HY3 HG4 HA4 HB45 HB4 HB3 HG3 HLR HB1 HB5 HRS z3 z5
  obtain ⟨hpb, hzl, hten⟩ := numsB_parts HNB.out
  obtain ⟨hls4, hlabs, hst, hcnt⟩ := progB_parts hpb
  have hv0 : len1 % ls.length < ls.length := Nat.mod_lt _ (by omega)
  obtain ⟨v, hv⟩ : ∃ v : Nat, len1 % ls.length = v := ⟨_, rfl⟩
  rw [hv] at hv0
  have hvi : Int.tmod (len1 : Int) (ls.length : Int) = (v : Int) := by rw [Int.tmod_eq_emod_of_nonneg (by omega), ← hv]; rfl
  have hvz : v < zs.length := by omega
  have hl0' : ¬ ((ls.length : Int) = 0) := by omega
  have HZL : Hid _ := hzl
  obtain ⟨⟨kp0, kp1⟩, -⟩ := HR7.out.p
  obtain ⟨⟨kx0, kx1, kx2⟩, -⟩ := HR7.out.x
  clear hpb hten hls4 hlabs hst hcnt hv hzl
  obtain ⟨pb, hpb2⟩ : ∃ b, progB ls (d + 1 + 1) (oneT (v : Int) (l : Tr (d + 1))) = b := ⟨_, rfl⟩
  have hON := one_nums (v : Int) HNB.out
  rw [hpb2] at hON
  have HON : Hid (numsB ls (d + 1 + 1) (oneT (v : Int) (l : Tr (d + 1))) zs = pb ∧ numsB ls (d + 1 + 1) (oneE (v : Int) (l : Tr (d + 1))) zs = pb) := hON
  have HPB2 : Hid _ := hpb2
  obtain ⟨ra, hra⟩ : ∃ r, runS ls (d + 1 + 1) (oneT (v : Int) (l : Tr (d + 1))) zs = r := ⟨_, rfl⟩
  obtain ⟨rb, hrb⟩ : ∃ r, runS ls (d + 1 + 1) (oneE (v : Int) (l : Tr (d + 1))) zs = r := ⟨_, rfl⟩
  have HRA : Hid _ := hra
  have HRB : Hid _ := hrb
  have HRS2 : Hid (pb = true → ra = (if zs[v] ≠ 0 then rs else ⟨zs, [], []⟩) ∧ rb = (if zs[v] ≠ 0 then ⟨zs, [], []⟩ else rs)) := (show pb = true → ra = (if zs[v] ≠ 0 then rs else ⟨zs, [], []⟩) ∧ rb = (if zs[v] ≠ 0 then ⟨zs, [], []⟩ else rs) by
    intro hp
    have := one_run v HNB.out (hpb2.trans hp) hvz
    rw [hra, hrb] at this
    have e : runS ls (d + 1) (l : List (Pay × Tr d × Tr d)) zs = rs := by rw [HDO.out]; unfold runS; rw [HNB.out]; rfl
    rw [e] at this
    exact this)
  obtain ⟨wA, hwA⟩ : ∃ x, x = w7.alloc (.cells #[.int .i64 2, .int .i64 (v : Int), .int .i64 0, .int .i64 0, .int .i64 0, .int .i64 0, .slice sa (ln (d + 1) (l : List (Pay × Tr d × Tr d))) sc, .slice none 0 0] 32) := ⟨_, rfl⟩
  obtain ⟨wB, hwB⟩ : ∃ x, x = wA.alloc (.cells #[.slice la ls.length lc, .slice (some ⟨w7.heap.size, 0, none⟩) 1 1] 26) := ⟨_, rfl⟩
  obtain ⟨wC, hwC⟩ : ∃ x, x = wB.alloc (.cells #[.int .i64 2, .int .i64 (v : Int), .int .i64 0, .int .i64 0, .int .i64 0, .int .i64 0, .slice none 0 0, .slice sa (ln (d + 1) (l : List (Pay × Tr d × Tr d))) sc] 32) := ⟨_, rfl⟩
  obtain ⟨wD, hwD⟩ : ∃ x, x = wC.alloc (.cells #[.slice la ls.length lc, .slice (some ⟨w7.heap.size + 1 + 1, 0, none⟩) 1 1] 26) := ⟨_, rfl⟩
  have zA : wA.heap.size = w7.heap.size + 1 := by rw [hwA]; simp
  have zB : wB.heap.size = w7.heap.size + 1 + 1 := by rw [hwB]; simp [zA]
  have zC : wC.heap.size = w7.heap.size + 1 + 1 + 1 := by rw [hwC]; simp [zB]
  have BA : Below w7.heap.size w7 wA := by rw [hwA]; exact (Below.refl _ _).alloc (Nat.le_refl _) _
  have BB : Below wA.heap.size wA wB := by rw [hwB]; exact (Below.refl _ _).alloc (Nat.le_refl _) _
  have BC : Below wB.heap.size wB wC := by rw [hwC]; exact (Below.refl _ _).alloc (Nat.le_refl _) _
  have BD : Below wC.heap.size wC wD := by rw [hwD]; exact (Below.refl _ _).alloc (Nat.le_refl _) _
  have B7B : Below w7.heap.size w7 wB := Below.then BA BB BA.size
  have BBD : Below wB.heap.size wB wD := Below.then BC BD BC.size
  have B7D : Below w7.heap.size w7 wD := Below.then B7B BBD B7B.size
  have RTA : Rep wA (d + 1 + 1) (.slice (some ⟨w7.heap.size, 0, none⟩) 1 1) (oneT (v : Int) (l : Tr (d + 1))) := by rw [hwA]; exact rep_oneT HR7.out.T _ _
  have RTD : Rep wD (d + 1 + 1) (.slice (some ⟨w7.heap.size, 0, none⟩) 1 1) (oneT (v : Int) (l : Tr (d + 1))) := (RTA.below BB).below BBD
  have RED : Rep wD (d + 1 + 1) (.slice (some ⟨w7.heap.size + 1 + 1, 0, none⟩) 1 1) (oneE (v : Int) (l : Tr (d + 1))) := by
    refine Rep.below BD ?_
    rw [hwC, ← zB]; exact rep_oneE (HR7.out.T.below B7B) _ _
  have HRD : Hid (Ran wD w1.heap.size w5.heap.size (.slice la ls.length lc) (.slice sa (ln (d + 1) (l : List (Pay × Tr d × Tr d))) sc) (.slice (some ad) zs.length nc) (.slice xa rs.n.length xac) (.slice xb rs.ws.length xbc) (.slice xc rs.ss.length xcc) ls d l zs rs) := HR7.out.below B7D
  have GA : C2 wB (w7.heap.size + 1) (.slice la ls.length lc) (.slice (some ⟨w7.heap.size, 0, none⟩) 1 1) := by rw [hwB, ← zA]; exact C2.new _ _ _ _
  have GB : C2 wD (w7.heap.size + 1 + 1 + 1) (.slice la ls.length lc) (.slice (some ⟨w7.heap.size + 1 + 1, 0, none⟩) 1 1) := by rw [hwD, ← zC]; exact C2.new _ _ _ _
  have HGA : Hid (C2 wD (w7.heap.size + 1) (.slice la ls.length lc) (.slice (some ⟨w7.heap.size, 0, none⟩) 1 1)) := GA.same (BBD.block _ (by omega))
  have HGB : Hid (C2 wD (w7.heap.size + 1 + 1 + 1) (.slice la ls.length lc) (.slice (some ⟨w7.heap.size + 1 + 1, 0, none⟩) 1 1)) := GB
  have HTD : Hid (Rep wD (d + 1 + 1) (.slice (some ⟨w7.heap.size, 0, none⟩) 1 1) (oneT (v : Int) (l : Tr (d + 1)))) := RTD
  have HED : Hid (Rep wD (d + 1 + 1) (.slice (some ⟨w7.heap.size + 1 + 1, 0, none⟩) 1 1) (oneE (v : Int) (l : Tr (d + 1)))) := RED
  have HBD : Hid (Below w.heap.size w wD) := Below.then HB7.out B7D HB7.out.size
  have K5 : Hid _ := runOf_any HRD.out.L RTD HRD.out.N
  rw [HON.out.1, HRA.out] at K5
  have HWA : Hid _ := hwA
  have HWB : Hid _ := hwB
  have HWC : Hid _ := hwC
  have HWD : Hid _ := hwD
  clear hwA hwB hwC hwD zA zB zC BA BB BC BD B7B BBD B7D RTA RTD RED GA GB hON hpb2 hra hrb HR7
  go_wp2_with fail
  rw [← HWA.out, ← HWB.out, ← HWC.out, ← HWD.out]
  go_at_call 18; refine Calls.mono K5.out ?_
  rintro e w8 ⟨vxa, vxb, vxc, rfl, hb8, r8⟩
  obtain ⟨fa, fac, ha⟩ := rowg_slice r8.n
  obtain ⟨fb, fbc, hb⟩ := rowg_slice r8.ws
  obtain ⟨fc, fcc, hc⟩ := rowg_slice r8.ss
  subst ha hb hc
  clear K5 HWA HWB HWC HWD kp0 kp1 kx0 kx1 kx2
  have HF8 : Hid (GRep (Value.int .i64) w8 (.slice fa ra.n.length fac) ra.n ∧ LRep w8 (.slice fb ra.ws.length fbc) ra.ws ∧ LRep w8 (.slice fc ra.ss.length fcc) ra.ss) := r8.reps
  have A9 : Below w8.heap.size w8 (w8.alloc (.cells #[.slice fa ra.n.length fac, .slice fb ra.ws.length fbc, .slice fc ra.ss.length fcc] 44)) := (Below.refl _ _).alloc (Nat.le_refl _) _
  have G9 := C3.new w8 (.slice fa ra.n.length fac) (.slice fb ra.ws.length fbc) (.slice fc ra.ss.length fcc) 44
  generalize hw9 : w8.alloc (.cells #[.slice fa ra.n.length fac, .slice fb ra.ws.length fbc, .slice fc ra.ss.length fcc] 44) = w9 at A9 G9
  have BD9 : Below wD.heap.size wD w9 := Below.then hb8 A9 hb8.size
  have HRD9 : Hid (Ran w9 w1.heap.size w5.heap.size (.slice la ls.length lc) (.slice sa (ln (d + 1) (l : List (Pay × Tr d × Tr d))) sc) (.slice (some ad) zs.length nc) (.slice xa rs.n.length xac) (.slice xb rs.ws.length xbc) (.slice xc rs.ss.length xcc) ls d l zs rs) := HRD.out.below BD9
  have K9 : Hid _ := runOf_any HRD9.out.L (HED.out.below BD9) HRD9.out.N
  rw [HON.out.2, HRB.out] at K9
  obtain ⟨⟨q0, q1⟩, -⟩ := HGB.out.same (hb8.block _ (C2.lt' HGB.out))
  have HGA9 : Hid (C2 w9 (w7.heap.size + 1) (.slice la ls.length lc) (.slice (some ⟨w7.heap.size, 0, none⟩) 1 1)) := HGA.out.same (BD9.block _ (C2.lt' HGA.out))
  have HT9 : Hid (Rep w9 (d + 1 + 1) (.slice (some ⟨w7.heap.size, 0, none⟩) 1 1) (oneT (v : Int) (l : Tr (d + 1)))) := HTD.out.below BD9
  have HF9 : Hid (GRep (Value.int .i64) w9 (.slice fa ra.n.length fac) ra.n ∧ LRep w9 (.slice fb ra.ws.length fbc) ra.ws ∧ LRep w9 (.slice fc ra.ss.length fcc) ra.ss) := ⟨HF8.out.1.below A9, HF8.out.2.1.below A9, HF8.out.2.2.below A9⟩
  have HG9 : Hid (C3 w9 w8.heap.size (.slice fa ra.n.length fac) (.slice fb ra.ws.length fbc) (.slice fc ra.ss.length fcc)) := G9
  have HB9 : Hid (Below w.heap.size w w9) := Below.then HBD.out BD9 HBD.out.size
  have HW9 : Hid _ := hw9
  clear hb8 r8 HF8 A9 G9 hw9 BD9 HRD HED HGB HGA HTD HBD
  go_wp2_with fail
  rw [HW9.out]
  go_at_call 18; refine Calls.mono K9.out ?_
  rintro e wT ⟨vxa, vxb, vxc, rfl, hbT, rT⟩
  obtain ⟨ga, gac, ha⟩ := rowg_slice rT.n
  obtain ⟨gb, gbc, hb⟩ := rowg_slice rT.ws
  obtain ⟨gc, gcc, hc⟩ := rowg_slice rT.ss
  subst ha hb hc
  clear K9 HW9 q0 q1
  have HHT : Hid (GRep (Value.int .i64) wT (.slice ga rb.n.length gac) rb.n ∧ LRep wT (.slice gb rb.ws.length gbc) rb.ws ∧ LRep wT (.slice gc rb.ss.length gcc) rb.ss) := rT.reps
  have AU : Below wT.heap.size wT (wT.alloc (.cells #[.slice ga rb.n.length gac, .slice gb rb.ws.length gbc, .slice gc rb.ss.length gcc] 44)) := (Below.refl _ _).alloc (Nat.le_refl _) _
  have GU := C3.new wT (.slice ga rb.n.length gac) (.slice gb rb.ws.length gbc) (.slice gc rb.ss.length gcc) 44
  generalize hwU : wT.alloc (.cells #[.slice ga rb.n.length gac, .slice gb rb.ws.length gbc, .slice gc rb.ss.length gcc] 44) = wU at AU GU
  have B9U : Below w9.heap.size w9 wU := Below.then hbT AU hbT.size
  have HRU : Hid (Ran wU w1.heap.size w5.heap.size (.slice la ls.length lc) (.slice sa (ln (d + 1) (l : List (Pay × Tr d × Tr d))) sc) (.slice (some ad) zs.length nc) (.slice xa rs.n.length xac) (.slice xb rs.ws.length xbc) (.slice xc rs.ss.length xcc) ls d l zs rs) := HRD9.out.below B9U
  have HGUo : Hid (C2 wU (w7.heap.size + 1) (.slice la ls.length lc) (.slice (some ⟨w7.heap.size, 0, none⟩) 1 1)) := HGA9.out.same (B9U.block _ (C2.lt' HGA9.out))
  have HTU : Hid (Rep wU (d + 1 + 1) (.slice (some ⟨w7.heap.size, 0, none⟩) 1 1) (oneT (v : Int) (l : Tr (d + 1)))) := HT9.out.below B9U
  have HFU : Hid (GRep (Value.int .i64) wU (.slice fa ra.n.length fac) ra.n ∧ LRep wU (.slice fb ra.ws.length fbc) ra.ws ∧ LRep wU (.slice fc ra.ss.length fcc) ra.ss) := ⟨HF9.out.1.below B9U, HF9.out.2.1.below B9U, HF9.out.2.2.below B9U⟩
  have HHU : Hid (GRep (Value.int .i64) wU (.slice ga rb.n.length gac) rb.n ∧ LRep wU (.slice gb rb.ws.length gbc) rb.ws ∧ LRep wU (.slice gc rb.ss.length gcc) rb.ss) := ⟨HHT.out.1.below AU, HHT.out.2.1.below AU, HHT.out.2.2.below AU⟩
  have HGF : Hid (C3 wU w8.heap.size (.slice fa ra.n.length fac) (.slice fb ra.ws.length fbc) (.slice fc ra.ss.length fcc)) := HG9.out.below B9U
  have HGG : Hid (C3 wU wT.heap.size (.slice ga rb.n.length gac) (.slice gb rb.ws.length gbc) (.slice gc rb.ss.length gcc)) := GU
  have HBU : Hid (Below w.heap.size w wU) := Below.then HB9.out B9U HB9.out.size
  have HWU : Hid _ := hwU
  obtain ⟨⟨q0, q1⟩, -⟩ := HGA9.out.same (hbT.block _ (C2.lt' HGA9.out))
  obtain ⟨⟨fa0, fa1, fa2⟩, -⟩ := HG9.out.below hbT
  obtain ⟨⟨kx0, kx1, kx2⟩, -⟩ := (HRD9.out.below hbT).x
  obtain ⟨na, no, had⟩ : ∃ na no, ad = ⟨na, no, none⟩ := by
    obtain ⟨a, c, hs, -, -, hcell⟩ := HRU.out.N
    obtain ⟨b, off, h1, -⟩ := hcell v hvz
    simp only [Value.slice.injEq] at hs
    exact ⟨b, off, Option.some.inj (hs.1.trans h1)⟩
  subst had
  obtain ⟨Zv, hZv⟩ : ∃ z, zs[v]? = some z := ⟨zs[v], List.getElem?_eq_getElem hvz⟩
  have cv : wT.cell? ⟨na, no + v, none⟩ = some (.int .i64 Zv) := grep_at (HRD9.out.below hbT).N (i := v) hZv
  have HZV : Hid (zs[v] = Zv) := (show zs[v] = Zv by rw [List.getElem?_eq_getElem hvz] at hZv; exact Option.some.inj hZv)
  clear hbT rT HHT AU hwU GU B9U HRD9 HGA9 HT9 HF9 HG9 HB9 hZv
  cases pb
  · have KP : Hid _ := sProgOk_any HRU.out.L HTU.out (by have e := cnt_oneT (d := d + 1) (v : Int) l; have : cnt (d + 1) (l : List (Pay × Tr d × Tr d)) ≤ 400 := cn; exact Nat.le_trans (Nat.le_of_eq e) (by omega))
    rw [HPB2.out] at KP
    go_wp2_with fail
    rw [HWU.out]
    go_at_call 30; refine Calls.mono KP.out ?_
    rintro e wq ⟨rfl, hbq⟩
    have HBq : Hid (Below w.heap.size w wq) := Below.then HBU.out hbq HBU.out.size
    clear hbq
    go_wp2
    go_ret
    exact ⟨rfl, HBq.out⟩
  · have hRR := HRS2.out rfl
    rw [HZV.out] at hRR
    have HRR : Hid _ := hRR
    have hv0' : (0 : Int) ≤ (v : Int) := by omega
    have hv1' : (v : Int) < (zs.length : Int) := by omega
    obtain ⟨wV, hwV⟩ : ∃ x, x = wU.alloc (.cells #[.slice (some ⟨na, no, none⟩) zs.length nc, .slice none 0 0, .slice none 0 0] 44) := ⟨_, rfl⟩
    have zU : wU.heap.size = wT.heap.size + 1 := by rw [← HWU.out]; simp
    have AV : Below wU.heap.size wU wV := by rw [hwV]; exact (Below.refl _ _).alloc (Nat.le_refl _) _
    have GV : C3 wV (wT.heap.size + 1) (.slice (some ⟨na, no, none⟩) zs.length nc) (.slice none 0 0) (.slice none 0 0) := by rw [hwV, ← zU]; exact C3.new _ _ _ _ _
    have HGV : Hid (C3 wV (wT.heap.size + 1) (.slice (some ⟨na, no, none⟩) zs.length nc) (.slice none 0 0) (.slice none 0 0)) := GV
    have HRV : Hid (Ran wV w1.heap.size w5.heap.size (.slice la ls.length lc) (.slice sa (ln (d + 1) (l : List (Pay × Tr d × Tr d))) sc) (.slice (some ⟨na, no, none⟩) zs.length nc) (.slice xa rs.n.length xac) (.slice xb rs.ws.length xbc) (.slice xc rs.ss.length xcc) ls d l zs rs) := HRU.out.below AV
    have HFV : Hid (GRep (Value.int .i64) wV (.slice fa ra.n.length fac) ra.n ∧ LRep wV (.slice fb ra.ws.length fbc) ra.ws ∧ LRep wV (.slice fc ra.ss.length fcc) ra.ss) := ⟨HFU.out.1.below AV, HFU.out.2.1.below AV, HFU.out.2.2.below AV⟩
    have HHV : Hid (GRep (Value.int .i64) wV (.slice ga rb.n.length gac) rb.n ∧ LRep wV (.slice gb rb.ws.length gbc) rb.ws ∧ LRep wV (.slice gc rb.ss.length gcc) rb.ss) := ⟨HHU.out.1.below AV, HHU.out.2.1.below AV, HHU.out.2.2.below AV⟩
    have HGGV : Hid (C3 wV wT.heap.size (.slice ga rb.n.length gac) (.slice gb rb.ws.length gbc) (.slice gc rb.ss.length gcc)) := HGG.out.below AV
    have HBV : Hid (Below w.heap.size w wV) := Below.then HBU.out AV HBU.out.size
    have HWV : Hid _ := hwV
    clear hwV zU AV GV hRR HRU HFU HHU HGG HBU
    by_cases hZ : Zv = 0
    · have HRA0 : Hid (ra = ⟨zs, [], []⟩) := (show ra = ⟨zs, [], []⟩ by have := HRR.out.1; rwa [if_neg (by rw [hZ]; simp)] at this)
      have HRB0 : Hid (rb = rs) := (show rb = rs by have := HRR.out.2; rwa [if_neg (by rw [hZ]; simp)] at this)
      have K1 : Hid _ := lcRun_same HFV.out.1 HFV.out.2.1 HFV.out.2.2 (by rw [HRA0.out]; exact HRV.out.N) (by rw [HRA0.out]; exact lrep_nil _) (by rw [HRA0.out]; exact lrep_nil _)
      go_wp2_with fail
      rw [HWU.out, ← HWV.out]
      go_at_call 19; refine Calls.mono K1.out ?_
      rintro e wW ⟨rfl, hbW⟩
      have HBW : Hid (Below w.heap.size w wW) := Below.then HBV.out hbW HBV.out.size
      have K2 : Hid _ := lcRun_same (HHV.out.1.below hbW) (HHV.out.2.1.below hbW) (HHV.out.2.2.below hbW) (by rw [HRB0.out]; exact HRV.out.xn.below hbW) (by rw [HRB0.out]; exact HRV.out.xw.below hbW) (by rw [HRB0.out]; exact HRV.out.xs.below hbW)
      clear kx0 kx1 kx2 fa0 fa1 fa2 q0 q1 cv
      obtain ⟨⟨kx0, kx1, kx2⟩, -⟩ := (HRV.out.below hbW).x
      obtain ⟨⟨g0, g1, g2⟩, -⟩ := HGGV.out.below hbW
      clear hbW K1
      go_wp2_with fail
      go_at_call 19; refine Calls.mono K2.out ?_
      rintro e wX ⟨rfl, hbX⟩
      have HBX : Hid (Below w.heap.size w wX) := Below.then HBW.out hbX HBW.out.size
      clear hbX
      go_wp2
      go_ret
      exact ⟨rfl, HBX.out⟩
    · have HRA0 : Hid (ra = rs) := (show ra = rs by have := HRR.out.1; rwa [if_pos hZ] at this)
      have HRB0 : Hid (rb = ⟨zs, [], []⟩) := (show rb = ⟨zs, [], []⟩ by have := HRR.out.2; rwa [if_pos hZ] at this)
      have K1 : Hid _ := lcRun_same HFV.out.1 HFV.out.2.1 HFV.out.2.2 (by rw [HRA0.out]; exact HRV.out.xn) (by rw [HRA0.out]; exact HRV.out.xw) (by rw [HRA0.out]; exact HRV.out.xs)
      go_wp2_with fail
      rw [HWU.out, ← HWV.out]
      go_at_call 19; refine Calls.mono K1.out ?_
      rintro e wW ⟨rfl, hbW⟩
      have HBW : Hid (Below w.heap.size w wW) := Below.then HBV.out hbW HBV.out.size
      have K2 : Hid _ := lcRun_same (HHV.out.1.below hbW) (HHV.out.2.1.below hbW) (HHV.out.2.2.below hbW) (by rw [HRB0.out]; exact HRV.out.N.below hbW) (by rw [HRB0.out]; exact lrep_nil _) (by rw [HRB0.out]; exact lrep_nil _)
      clear kx0 kx1 kx2 fa0 fa1 fa2 q0 q1 cv
      obtain ⟨⟨v0, v1, v2⟩, -⟩ := HGV.out.below hbW
      obtain ⟨⟨g0, g1, g2⟩, -⟩ := HGGV.out.below hbW
      clear hbW K1
      go_wp2_with fail
      go_at_call 19; refine Calls.mono K2.out ?_
      rintro e wX ⟨rfl, hbX⟩
      have HBX : Hid (Below w.heap.size w wX) := Below.then HBW.out hbX HBW.out.size
      clear hbX
      go_wp2
      go_ret
      exact ⟨rfl, HBX.out⟩
end Go.Proofs.Ytepacahfpbedoaa
