/- Two variables may be set in either order: the law, walked. -/
import Derived.Test.YtepacahfpbedoaaPrl
import Derived.Test.YtepacahfpbedoaaLco
import Derived.Test.YtepacahfpbedoaaSml
namespace Go.Proofs.Ytepacahfpbedoaa
open Go.RowKit
set_option linter.unusedSimpArgs false
set_option linter.unusedVariables false
attribute [local go_sem ↓] Go.wp_at_zero Go.wp_at_succ
attribute [local go_sem] World.cell?_alloc_some

set_option maxHeartbeats 8000000 in
set_option maxRecDepth 20000 in
theorem fnRunSwap_walk (a0 : Option Addr) (len0 cap0 : Nat) (z0 : List Int) (a1 : Option Addr) (len1 cap1 : Nat) (z1 : List Int) (w : World) (h0 : IsRow .u8 w a0 len0 cap0 z0) (h1 : IsRow .u8 w a1 len1 cap1 z1) :
    Calls Try.prog 10 #[.slice a0 len0 cap0, .slice a1 len1 cap1] w fun e w' => e = .returned (.bool true) ∧ Below w.heap.size w w' := by
  by_cases hl0 : (1048576 : Int) < (len0 : Int)
  · go_enter Try.func10, Try.ntmps10
    go_wp2
    go_ret
    exact ⟨rfl, Below.refl _ _⟩
  by_cases hl1 : (1048576 : Int) < (len1 : Int)
  · go_enter Try.func10, Try.ntmps10
    go_wp2
    go_ret
    exact ⟨rfl, Below.refl _ _⟩
  have C1 : Hid _ := drawNumsOk_any w a0 len0 cap0 z0 h0
  clear h0 h1
  go_enter Try.func10, Try.ntmps10
  go_wp2_with fail
  go_at_call 31; refine Calls.mono C1.out ?_
  rintro e w1 ⟨lv, sv, nv, ls, d, l, zs, rfl, hLp, hRp, ⟨hN, ad, nc, rfl, -⟩, ll, cn, hb1⟩
  have hL := hLp.rep
  have hR := hRp.rep
  obtain ⟨la, lc, rfl, -⟩ := id hL
  obtain ⟨sa, sc, rfl⟩ := hR.slice
  have HLR : Hid (∀ wz, Below w1.heap.size w1 wz → LRep wz (.slice la ls.length lc) ls ∧ Rep wz (d + 1) (.slice sa (ln (d + 1) (l : List (Pay × Tr d × Tr d))) sc) (l : List (Pay × Tr d × Tr d)) ∧ GRep (Value.int .i64) wz (.slice (some ad) zs.length nc) zs) := (show ∀ wz, _ from fun wz hb => ⟨hL.below hb, hR.below hb, hN.below hb⟩)
  have HB1 : Hid (Below w.heap.size w w1) := hb1
  have A : Below w1.heap.size w1 (w1.alloc (.cells #[.slice la ls.length lc, .slice sa (ln (d + 1) (l : List (Pay × Tr d × Tr d))) sc] 26)) := (Below.refl _ _).alloc (Nat.le_refl _) _
  have G2 := C2.new w1 (.slice la ls.length lc) (.slice sa (ln (d + 1) (l : List (Pay × Tr d × Tr d))) sc) 26
  generalize hw2 : w1.alloc (.cells #[.slice la ls.length lc, .slice sa (ln (d + 1) (l : List (Pay × Tr d × Tr d))) sc] 26) = w2 at A G2
  have HW2 : Hid _ := hw2
  have HA : Hid (Below w1.heap.size w1 w2) := A
  have K2 : Hid _ := numsOk_any (HLR.out w2 A).1 (HLR.out w2 A).2.1 (HLR.out w2 A).2.2
  have HG2 : Hid (C2 w2 w1.heap.size (.slice la ls.length lc) (.slice sa (ln (d + 1) (l : List (Pay × Tr d × Tr d))) sc)) := G2
  obtain ⟨nb, hnb⟩ : ∃ nb, numsB ls (d + 1) (l : List (Pay × Tr d × Tr d)) zs = nb := ⟨_, rfl⟩
  rw [hnb] at K2
  have HNB : Hid _ := hnb
  clear hLp hRp hb1 C1 A G2 hw2 hnb hL hR hN
  go_wp2_with fail
  rw [HW2.out]
  go_at_call 21; refine Calls.mono K2.out ?_
  rintro e w3 ⟨rfl, hb3⟩
  have HB3 : Hid (Below w1.heap.size w1 w3) := Below.then HA.out hb3 HA.out.size
  have z2 : w1.heap.size < w2.heap.size := C2.lt' HG2.out
  have G3 := HG2.out.same (hb3.block _ z2)
  have HG3 : Hid (C2 w3 w1.heap.size (.slice la ls.length lc) (.slice sa (ln (d + 1) (l : List (Pay × Tr d × Tr d))) sc)) := G3
  have K3 : Hid _ := sNumsOk_any (HLR.out w3 HB3.out).1 (HLR.out w3 HB3.out).2.1 (by omega) (HLR.out w3 HB3.out).2.2
  rw [HNB.out] at K3
  obtain ⟨⟨p0, p1⟩, -⟩ := G3
  clear hb3 K2 HG2 HA HW2 z2
  go_wp2_with fail
  go_at_call 32; refine Calls.mono K3.out ?_
  rintro e w4 ⟨rfl, hb4⟩
  have HB4 : Hid (Below w1.heap.size w1 w4) := Below.then HB3.out hb4 HB3.out.size
  have G4 := HG3.out.same (hb4.block _ (C2.lt' HG3.out))
  have HG4 : Hid (C2 w4 w1.heap.size (.slice la ls.length lc) (.slice sa (ln (d + 1) (l : List (Pay × Tr d × Tr d))) sc)) := G4
  have K4 : Hid _ := sNumsOk_any (HLR.out w4 HB4.out).1 (HLR.out w4 HB4.out).2.1 (by omega) (HLR.out w4 HB4.out).2.2
  rw [HNB.out] at K4
  clear p0 p1
  obtain ⟨⟨p0, p1⟩, -⟩ := G4
  clear hb4 K3 HG3 HB3
  cases nb
  · go_wp2_with fail
    go_at_call 32; refine Calls.mono K4.out ?_
    rintro e w5 ⟨rfl, hb5⟩
    have HB5 : Hid (Below w.heap.size w w5) := Below.then HB1.out (Below.then HB4.out hb5 HB4.out.size) HB1.out.size
    clear hb5 K4 p0 p1
    go_wp2
    go_ret
    exact ⟨rfl, HB5.out⟩
  by_cases hsh : (zs.length : Int) < 2
  · go_wp2_with fail
    go_at_call 32; refine Calls.mono K4.out ?_
    rintro e w5 ⟨rfl, hb5⟩
    have HB5 : Hid (Below w.heap.size w w5) := Below.then HB1.out (Below.then HB4.out hb5 HB4.out.size) HB1.out.size
    clear hb5 K4 p0 p1
    go_wp2
    go_ret
    exact ⟨rfl, HB5.out⟩
  clear K4
  obtain ⟨hpb, hzl, hten⟩ := numsB_parts HNB.out
  obtain ⟨hls4, hlabs, hst, hcnt⟩ := progB_parts hpb
  obtain ⟨M, hM⟩ : ∃ M, Int.tmod (len1 : Int) 10 = M := ⟨_, rfl⟩
  have hM0 : 0 ≤ M ∧ M < 10 := by rw [← hM]; exact tmod_ten _ (by omega)
  have hOK := swap_ok hls4 hlabs (by omega) hzl hten hM0
  have hRN := swap_run hls4 hlabs (by omega) hzl hten hM0
  have HM : Hid (Int.tmod (len1 : Int) 10 = M) := hM
  obtain ⟨rs1, hr1⟩ : ∃ r, runS ls 1 (twoS (pA M) pB) zs = r := ⟨_, rfl⟩
  obtain ⟨rs2, hr2⟩ : ∃ r, runS ls 1 (twoS pB (pA M)) zs = r := ⟨_, rfl⟩
  rw [hr1, hr2] at hRN
  have HR1 : Hid _ := hr1
  have HR2 : Hid _ := hr2
  have HOK : Hid _ := hOK
  have HRN : Hid _ := hRN
  have hz2 : 2 ≤ zs.length := by omega
  clear hpb hzl hten hls4 hlabs hst hcnt hM0 hOK hRN hr1 hr2
  have HN4 : Hid (∀ wz, Below w4.heap.size w4 wz → LRep wz (.slice la ls.length lc) ls ∧ GRep (Value.int .i64) wz (.slice (some ad) zs.length nc) zs) := (show ∀ wz, _ from fun wz hb => have q := HLR.out wz (Below.then HB4.out hb HB4.out.size); ⟨q.1, q.2.2⟩)
  obtain ⟨wA, hwA⟩ : ∃ x, x = w4.alloc (.cells #[.int .i64 1, .int .i64 0, .int .i64 1, .int .i64 M, .int .i64 0, .int .i64 0, .slice none 0 0, .slice none 0 0] 32) := ⟨_, rfl⟩
  obtain ⟨wB, hwB⟩ : ∃ x, x = wA.alloc (.cells #[.int .i64 1, .int .i64 1, .int .i64 2, .int .i64 1, .int .i64 0, .int .i64 0, .slice none 0 0, .slice none 0 0] 32) := ⟨_, rfl⟩
  obtain ⟨wC, hwC⟩ : ∃ x, x = wB.alloc (.cells #[.int .i64 1, .int .i64 0, .int .i64 1, .int .i64 M, .int .i64 0, .int .i64 0, .slice none 0 0, .slice none 0 0, .int .i64 1, .int .i64 1, .int .i64 2, .int .i64 1, .int .i64 0, .int .i64 0, .slice none 0 0, .slice none 0 0] 32) := ⟨_, rfl⟩
  have zA : wA.heap.size = w4.heap.size + 1 := by rw [hwA]; simp
  have zB : wB.heap.size = w4.heap.size + 1 + 1 := by rw [hwB]; simp [zA]
  have BA : Below w4.heap.size w4 wA := by rw [hwA]; exact (Below.refl _ _).alloc (Nat.le_refl _) _
  have BB : Below wA.heap.size wA wB := by rw [hwB]; exact (Below.refl _ _).alloc (Nat.le_refl _) _
  have BC : Below wB.heap.size wB wC := by rw [hwC]; exact (Below.refl _ _).alloc (Nat.le_refl _) _
  have GA : C8 wA w4.heap.size (.int .i64 1) (.int .i64 0) (.int .i64 1) (.int .i64 M) (.int .i64 0) (.int .i64 0) (.slice none 0 0) (.slice none 0 0) := by rw [hwA]; exact C8.new _ _ _ _ _ _ _ _ _ _
  have GB : C8 wB (w4.heap.size + 1) (.int .i64 1) (.int .i64 1) (.int .i64 2) (.int .i64 1) (.int .i64 0) (.int .i64 0) (.slice none 0 0) (.slice none 0 0) := by rw [hwB, ← zA]; exact C8.new _ _ _ _ _ _ _ _ _ _
  have RT : Rep wC 1 (.slice (some ⟨w4.heap.size + 1 + 1, 0, none⟩) 2 2) (twoS (pA M) pB) := by rw [hwC, ← zB]; exact rep_two wB (pA M) pB _
  have B4C : Below w4.heap.size w4 wC := Below.then (Below.then BA BB BA.size) BC (by have := BA.size; have := BB.size; omega)
  have K5 : Hid _ := runOf_any (HN4.out wC B4C).1 RT (HN4.out wC B4C).2
  rw [HOK.out.1, HR1.out] at K5
  have HGA : Hid (C8 wC w4.heap.size (.int .i64 1) (.int .i64 0) (.int .i64 1) (.int .i64 M) (.int .i64 0) (.int .i64 0) (.slice none 0 0) (.slice none 0 0)) := (GA.below BB).below BC
  have HGB : Hid (C8 wC (w4.heap.size + 1) (.int .i64 1) (.int .i64 1) (.int .i64 2) (.int .i64 1) (.int .i64 0) (.int .i64 0) (.slice none 0 0) (.slice none 0 0)) := GB.below BC
  have HB4C : Hid (Below w4.heap.size w4 wC) := B4C
  have HWA : Hid _ := hwA
  have HWB : Hid _ := hwB
  have HWC : Hid _ := hwC
  clear hwA hwB hwC zA zB BA BB BC GA GB RT B4C
  go_wp2_with fail
  rw [← HWA.out, ← HWB.out, ← HWC.out]
  go_at_call 18; refine Calls.mono K5.out ?_
  rintro e w5 ⟨vxa, vxb, vxc, rfl, hb5, r5⟩
  obtain ⟨xa, xac, ha⟩ := rowg_slice r5.n
  obtain ⟨xb, xbc, hb⟩ := rowg_slice r5.ws
  obtain ⟨xc, xcc, hc⟩ := rowg_slice r5.ss
  subst ha hb hc
  clear K5 HWA HWB HWC p1
  have HB45 : Hid (Below w4.heap.size w4 w5) := Below.then HB4C.out hb5 HB4C.out.size
  have HX5 : Hid (GRep (Value.int .i64) w5 (.slice xa rs1.n.length xac) rs1.n) := r5.reps.1
  have hxl : 2 ≤ rs1.n.length := by have := HRN.out.2.1; omega
  obtain ⟨xg, xo, hxa⟩ : ∃ xg xo, xa = some ⟨xg, xo, none⟩ := by
    obtain ⟨a, c, hs, -, -, hcell⟩ := HX5.out
    obtain ⟨b, off, h1, -⟩ := hcell 0 (by omega)
    simp only [Value.slice.injEq] at hs
    exact ⟨b, off, hs.1.trans h1⟩
  subst hxa
  obtain ⟨⟨ga0, ga1, ga2, ga3, ga4, ga5, ga6, ga7⟩, -⟩ := HGA.out.below hb5
  obtain ⟨⟨gb0, gb1, gb2, gb3, gb4, gb5, gb6, gb7⟩, -⟩ := HGB.out.below hb5
  replace p0 := cell_later HB45.out p0
  obtain ⟨w6, hw6⟩ : ∃ x, x = w5.alloc (.cells #[.slice (some ⟨xg, xo, none⟩) rs1.n.length xac, .slice xb rs1.ws.length xbc, .slice xc rs1.ss.length xcc] 44) := ⟨_, rfl⟩
  obtain ⟨w7, hw7⟩ : ∃ x, x = w6.alloc (.cells #[.int .i64 1, .int .i64 1, .int .i64 2, .int .i64 1, .int .i64 0, .int .i64 0, .slice none 0 0, .slice none 0 0, .int .i64 1, .int .i64 0, .int .i64 1, .int .i64 M, .int .i64 0, .int .i64 0, .slice none 0 0, .slice none 0 0] 32) := ⟨_, rfl⟩
  have z6 : w6.heap.size = w5.heap.size + 1 := by rw [hw6]; simp
  have B56 : Below w5.heap.size w5 w6 := by rw [hw6]; exact (Below.refl _ _).alloc (Nat.le_refl _) _
  have B67 : Below w6.heap.size w6 w7 := by rw [hw7]; exact (Below.refl _ _).alloc (Nat.le_refl _) _
  have G6 : C3 w6 w5.heap.size (.slice (some ⟨xg, xo, none⟩) rs1.n.length xac) (.slice xb rs1.ws.length xbc) (.slice xc rs1.ss.length xcc) := by rw [hw6]; exact C3.new _ _ _ _ _
  have HG7 : Hid (C3 w7 w5.heap.size (.slice (some ⟨xg, xo, none⟩) rs1.n.length xac) (.slice xb rs1.ws.length xbc) (.slice xc rs1.ss.length xcc)) := G6.below B67
  have RT : Rep w7 1 (.slice (some ⟨w5.heap.size + 1, 0, none⟩) 2 2) (twoS pB (pA M)) := by rw [hw7, ← z6]; exact rep_two w6 pB (pA M) _
  have HB57 : Hid (Below w5.heap.size w5 w7) := Below.then B56 B67 B56.size
  have HB47 : Hid (Below w4.heap.size w4 w7) := Below.then HB45.out HB57.out HB45.out.size
  have K7 : Hid _ := runOf_any (HN4.out w7 HB47.out).1 RT (HN4.out w7 HB47.out).2
  rw [HOK.out.2, HR2.out] at K7
  have HW6 : Hid _ := hw6
  have HW7 : Hid _ := hw7
  clear hw6 hw7 z6 B56 B67 G6 RT hb5 r5 HGA HGB HB4C hxl
  go_wp2_with fail
  rw [← HW6.out, ← HW7.out]
  go_at_call 18; refine Calls.mono K7.out ?_
  rintro e w8 ⟨vya, vyb, vyc, rfl, hb8, r8⟩
  obtain ⟨ya, yac, ha⟩ := rowg_slice r8.n
  obtain ⟨yb, ybc, hb⟩ := rowg_slice r8.ws
  obtain ⟨yc, ycc, hc⟩ := rowg_slice r8.ss
  subst ha hb hc
  clear K7 HW6 HW7 p0 ga0 ga1 ga2 ga3 ga4 ga5 ga6 ga7 gb0 gb1 gb2 gb3 gb4 gb5 gb6 gb7
  have A9 : Below w8.heap.size w8 (w8.alloc (.cells #[.slice ya rs2.n.length yac, .slice yb rs2.ws.length ybc, .slice yc rs2.ss.length ycc] 44)) := (Below.refl _ _).alloc (Nat.le_refl _) _
  have G9 := C3.new w8 (.slice ya rs2.n.length yac) (.slice yb rs2.ws.length ybc) (.slice yc rs2.ss.length ycc) 44
  generalize hw9 : w8.alloc (.cells #[.slice ya rs2.n.length yac, .slice yb rs2.ws.length ybc, .slice yc rs2.ss.length ycc] 44) = w9 at A9 G9
  have B79 : Below w7.heap.size w7 w9 := Below.then hb8 A9 hb8.size
  have B59 : Below w5.heap.size w5 w9 := Below.then HB57.out B79 HB57.out.size
  have HB9 : Hid (Below w.heap.size w w9) := Below.then HB1.out (Below.then HB4.out (Below.then HB45.out B59 HB45.out.size) HB4.out.size) HB1.out.size
  have HX9 : Hid (GRep (Value.int .i64) w9 (.slice (some ⟨xg, xo, none⟩) rs1.n.length xac) rs1.n) := HX5.out.below B59
  have HY9 : Hid (GRep (Value.int .i64) w9 (.slice ya rs2.n.length yac) rs2.n) := r8.reps.1.below A9
  have KI : Hid (∀ wz, Below w9.heap.size w9 wz → Calls Try.prog 20 #[.slice (some ⟨xg, xo, none⟩) rs1.n.length xac, .slice ya rs2.n.length yac] wz fun e w' => e = .returned (.bool true) ∧ Below wz.heap.size wz w') := (show ∀ wz, _ from fun wz hb => by
    have := lcInts_any (HX9.out.below hb) (HY9.out.below hb)
    rwa [decide_eq_true HRN.out.1] at this)
  obtain ⟨⟨x0, -, -⟩, -⟩ := HG7.out.below B79
  obtain ⟨⟨y0, -, -⟩, -⟩ := G9
  obtain ⟨Z1, hZ1⟩ : ∃ z, zs[1]? = some z := ⟨zs[1], List.getElem?_eq_getElem (by omega)⟩
  have c0 : w9.cell? ⟨xg, xo, none⟩ = some (.int .i64 M) := grep_at HX9.out (i := 0) HRN.out.2.2.1
  have c1 : w9.cell? ⟨xg, xo + 1, none⟩ = some (.int .i64 Z1) := grep_at HX9.out (i := 1) (HRN.out.2.2.2.trans hZ1)
  have hl2 : (2 : Int) ≤ (rs1.n.length : Int) := by have := HRN.out.2.1; omega
  have hl3 : 0 < rs1.n.length := by omega
  have hl4 : 1 < rs1.n.length := by omega
  have hl5 : 1 < zs.length := by omega
  have hl6 : (1 : Int) < (rs1.n.length : Int) := by omega
  have hl7 : (1 : Int) < (zs.length : Int) := by omega
  clear hl2
  obtain ⟨na, no, had⟩ : ∃ na no, ad = ⟨na, no, none⟩ := by
    obtain ⟨a, c, hs, -, -, hcell⟩ := (HN4.out w4 (Below.refl _ _)).2
    obtain ⟨b, off, h1, -⟩ := hcell 0 (by omega)
    simp only [Value.slice.injEq] at hs
    exact ⟨b, off, Option.some.inj (hs.1.trans h1)⟩
  subst had
  have c2 : w9.cell? ⟨na, no + 1, none⟩ = some (.int .i64 Z1) := grep_at (HN4.out w9 (Below.then HB45.out B59 HB45.out.size)).2 (i := 1) hZ1
  have hM' := HM.out
  have HW9 : Hid _ := hw9
  clear hw9 A9 hb8 r8 B79 B59 hZ1 HX9 HY9 HX5
  go_wp2_with fail
  rw [HW9.out]
  clear HW9
  refine wp_region_held (S := (fun wz => Below w9.heap.size w9 wz)) (by kernel_rfl) ?_
  change wpAnyH _ _ _ _ _ _ _ _ (World.drew _)
  have hHeld := (Below.refl w9.heap.size w9).drew
  refine' wpAnyH_take (i := 0) (v := _) rfl (by kernel_rfl) (by kernel_rfl) (by kernel_rfl) (fun _ _ _ h => h) (Or.inl ⟨by rfl, ?hy501⟩) hHeld ?hn501
  case hy501 => (intro wz hSw; (try dsimp only at hSw); go_simp; first | done | with_reducible rfl)
  try simp only [List.getElem_toArray, List.getElem_cons_zero, List.getElem_cons_succ, Act.put, List.setIfInBounds_toArray, List.set_cons_zero, List.set_cons_succ]
  refine' wpAnyH_take (i := 1) (v := _) rfl (by kernel_rfl) (by kernel_rfl) (by kernel_rfl) (fun _ _ _ h => h) (Or.inl ⟨by rfl, ?hy502⟩) hHeld ?hn502
  case hy502 => (intro wz hSw; (try dsimp only at hSw); go_simp; first | done | with_reducible rfl)
  try simp only [List.getElem_toArray, List.getElem_cons_zero, List.getElem_cons_succ, Act.put, List.setIfInBounds_toArray, List.set_cons_zero, List.set_cons_succ]
  refine' wpAnyH_take (i := 2) (v := _) rfl (by kernel_rfl) (by kernel_rfl) (by kernel_rfl) (fun _ _ _ h => h) (Or.inl ⟨by rfl, ?hy503⟩) hHeld ?hn503
  case hy503 => (intro wz hSw; (try dsimp only at hSw); go_simp; first | done | with_reducible rfl)
  try simp only [List.getElem_toArray, List.getElem_cons_zero, List.getElem_cons_succ, Act.put, List.setIfInBounds_toArray, List.set_cons_zero, List.set_cons_succ]
  refine' wpAnyH_take (i := 3) (v := _) rfl (by kernel_rfl) (by kernel_rfl) (by kernel_rfl) (fun _ _ _ h => h) (Or.inl ⟨by rfl, ?hy504⟩) hHeld ?hn504
  case hy504 => (intro wz hSw; (try dsimp only at hSw); go_simp; first | done | with_reducible rfl)
  try simp only [List.getElem_toArray, List.getElem_cons_zero, List.getElem_cons_succ, Act.put, List.setIfInBounds_toArray, List.set_cons_zero, List.set_cons_succ]
  refine' wpAnyH_take (i := 4) (v := _) rfl (by kernel_rfl) (by kernel_rfl) (by kernel_rfl) (fun _ _ _ h => h) (Or.inl ⟨by rfl, ?hy505⟩) hHeld ?hn505
  case hy505 => (intro wz hSw; (try dsimp only at hSw); go_simp; first | done | with_reducible rfl)
  try simp only [List.getElem_toArray, List.getElem_cons_zero, List.getElem_cons_succ, Act.put, List.setIfInBounds_toArray, List.set_cons_zero, List.set_cons_succ]
  refine' wpAnyH_take (i := 5) (v := _) rfl (by kernel_rfl) (by kernel_rfl) (by kernel_rfl) (fun _ _ _ h => h) (Or.inl ⟨by rfl, ?hy506⟩) hHeld ?hn506
  case hy506 => (intro wz hSw; (try dsimp only at hSw); go_simp; first | done | with_reducible rfl)
  try simp only [List.getElem_toArray, List.getElem_cons_zero, List.getElem_cons_succ, Act.put, List.setIfInBounds_toArray, List.set_cons_zero, List.set_cons_succ]
  refine' wpAnyH_take (i := 6) (v := (.slice (some ⟨xg, xo, none⟩) rs1.n.length xac)) rfl (by kernel_rfl) (by kernel_rfl) (by kernel_rfl) (fun _ _ _ h => h) (Or.inl ⟨by rfl, ?hy507⟩) hHeld ?hn507
  case hy507 => (intro wz hSw; have k := cell_later hSw x0; go_simp)
  try simp only [List.getElem_toArray, List.getElem_cons_zero, List.getElem_cons_succ, Act.put, List.setIfInBounds_toArray, List.set_cons_zero, List.set_cons_succ]
  refine' wpAnyH_take (i := 7) (v := _) rfl (by kernel_rfl) (by kernel_rfl) (by kernel_rfl) (fun _ _ _ h => h) (Or.inl ⟨by rfl, ?hy508⟩) hHeld ?hn508
  case hy508 => (intro wz hSw; (try dsimp only at hSw); go_simp; first | done | with_reducible rfl)
  try simp only [List.getElem_toArray, List.getElem_cons_zero, List.getElem_cons_succ, Act.put, List.setIfInBounds_toArray, List.set_cons_zero, List.set_cons_succ]
  refine' wpAnyH_take (i := 8) (v := (.slice ya rs2.n.length yac)) rfl (by kernel_rfl) (by kernel_rfl) (by kernel_rfl) (fun _ _ _ h => h) (Or.inl ⟨by rfl, ?hy509⟩) hHeld ?hn509
  case hy509 => (intro wz hSw; have k := cell_later hSw y0; go_simp)
  try simp only [List.getElem_toArray, List.getElem_cons_zero, List.getElem_cons_succ, Act.put, List.setIfInBounds_toArray, List.set_cons_zero, List.set_cons_succ]
  refine wpAnyH_ready (rs := [9]) (by kernel_rfl) (by simp) ?_
  refine AllReadyH.cons rfl (fun K hK => ?_) AllReadyH.nil
  go_simp
  refine Calls.mono (KI.out _ hHeld) ?_; rintro e' wq ⟨rfl, hbx⟩
  refine hK.out _ _ (Below.then hHeld hbx hHeld.size) (fun hHeld => ?_)
  clear hK K
  refine' wpAnyH_take (i := 10) (v := _) rfl (by kernel_rfl) (by kernel_rfl) (by kernel_rfl) (fun _ _ _ h => h) (Or.inl ⟨by rfl, ?hy510⟩) hHeld ?hn510
  case hy510 => (intro wz hSw; (try dsimp only at hSw); go_simp; first | done | with_reducible rfl)
  try simp only [List.getElem_toArray, List.getElem_cons_zero, List.getElem_cons_succ, Act.put, List.setIfInBounds_toArray, List.set_cons_zero, List.set_cons_succ]
  refine' wpAnyH_take (i := 11) (v := _) rfl (by kernel_rfl) (by kernel_rfl) (by kernel_rfl) (fun _ _ _ h => h) (Or.inl ⟨by rfl, ?hy511⟩) hHeld ?hn511
  case hy511 => (intro wz hSw; (try dsimp only at hSw); go_simp; first | done | with_reducible rfl)
  try simp only [List.getElem_toArray, List.getElem_cons_zero, List.getElem_cons_succ, Act.put, List.setIfInBounds_toArray, List.set_cons_zero, List.set_cons_succ]
  refine' wpAnyH_take (i := 12) (v := _) rfl (by kernel_rfl) (by kernel_rfl) (by kernel_rfl) (fun _ _ _ h => h) (Or.inl ⟨by rfl, ?hy512⟩) hHeld ?hn512
  case hy512 => (intro wz hSw; (try dsimp only at hSw); go_simp; first | done | with_reducible rfl)
  try simp only [List.getElem_toArray, List.getElem_cons_zero, List.getElem_cons_succ, Act.put, List.setIfInBounds_toArray, List.set_cons_zero, List.set_cons_succ]
  refine' wpAnyH_take (i := 13) (v := (.slice (some ⟨xg, xo, none⟩) rs1.n.length xac)) rfl (by kernel_rfl) (by kernel_rfl) (by kernel_rfl) (fun _ _ _ h => h) (Or.inl ⟨by rfl, ?hy513⟩) hHeld ?hn513
  case hy513 => (intro wz hSw; have k := cell_later hSw x0; go_simp)
  try simp only [List.getElem_toArray, List.getElem_cons_zero, List.getElem_cons_succ, Act.put, List.setIfInBounds_toArray, List.set_cons_zero, List.set_cons_succ]
  refine' wpAnyH_take (i := 14) (v := _) rfl (by kernel_rfl) (by kernel_rfl) (by kernel_rfl) (fun _ _ _ h => h) (Or.inl ⟨by rfl, ?hy514⟩) hHeld ?hn514
  case hy514 => (intro wz hSw; (try dsimp only at hSw); go_simp; first | done | with_reducible rfl)
  try simp only [List.getElem_toArray, List.getElem_cons_zero, List.getElem_cons_succ, Act.put, List.setIfInBounds_toArray, List.set_cons_zero, List.set_cons_succ]
  refine' wpAnyH_take (i := 15) (v := (.int .i64 M)) rfl (by kernel_rfl) (by kernel_rfl) (by kernel_rfl) (fun _ _ _ h => h) (Or.inl ⟨by rfl, ?hy515⟩) hHeld ?hn515
  case hy515 => (intro wz hSw; have k := cell_later hSw c0; go_simp)
  try simp only [List.getElem_toArray, List.getElem_cons_zero, List.getElem_cons_succ, Act.put, List.setIfInBounds_toArray, List.set_cons_zero, List.set_cons_succ]
  refine' wpAnyH_take (i := 16) (v := _) rfl (by kernel_rfl) (by kernel_rfl) (by kernel_rfl) (fun _ _ _ h => h) (Or.inl ⟨by rfl, ?hy516⟩) hHeld ?hn516
  case hy516 => (intro wz hSw; (try dsimp only at hSw); go_simp; first | done | with_reducible rfl)
  try simp only [List.getElem_toArray, List.getElem_cons_zero, List.getElem_cons_succ, Act.put, List.setIfInBounds_toArray, List.set_cons_zero, List.set_cons_succ]
  refine' wpAnyH_take (i := 17) (v := _) rfl (by kernel_rfl) (by kernel_rfl) (by kernel_rfl) (fun _ _ _ h => h) (Or.inl ⟨by rfl, ?hy517⟩) hHeld ?hn517
  case hy517 => (intro wz hSw; (try dsimp only at hSw); go_simp; first | done | with_reducible rfl)
  try simp only [List.getElem_toArray, List.getElem_cons_zero, List.getElem_cons_succ, Act.put, List.setIfInBounds_toArray, List.set_cons_zero, List.set_cons_succ]
  refine' wpAnyH_take (i := 18) (v := _) rfl (by kernel_rfl) (by kernel_rfl) (by kernel_rfl) (fun _ _ _ h => h) (Or.inl ⟨by rfl, ?hy518⟩) hHeld ?hn518
  case hy518 => (intro wz hSw; (try dsimp only at hSw); go_simp; first | done | with_reducible rfl)
  try simp only [List.getElem_toArray, List.getElem_cons_zero, List.getElem_cons_succ, Act.put, List.setIfInBounds_toArray, List.set_cons_zero, List.set_cons_succ]
  refine' wpAnyH_take (i := 19) (v := _) rfl (by kernel_rfl) (by kernel_rfl) (by kernel_rfl) (fun _ _ _ h => h) (Or.inl ⟨by rfl, ?hy519⟩) hHeld ?hn519
  case hy519 => (intro wz hSw; (try dsimp only at hSw); go_simp; first | done | with_reducible rfl)
  try simp only [List.getElem_toArray, List.getElem_cons_zero, List.getElem_cons_succ, Act.put, List.setIfInBounds_toArray, List.set_cons_zero, List.set_cons_succ]
  refine' wpAnyH_take (i := 20) (v := _) rfl (by kernel_rfl) (by kernel_rfl) (by kernel_rfl) (fun _ _ _ h => h) (Or.inl ⟨by rfl, ?hy520⟩) hHeld ?hn520
  case hy520 => (intro wz hSw; (try dsimp only at hSw); go_simp; first | done | with_reducible rfl)
  try simp only [List.getElem_toArray, List.getElem_cons_zero, List.getElem_cons_succ, Act.put, List.setIfInBounds_toArray, List.set_cons_zero, List.set_cons_succ]
  refine' wpAnyH_take (i := 21) (v := _) rfl (by kernel_rfl) (by kernel_rfl) (by kernel_rfl) (fun _ _ _ h => h) (Or.inl ⟨by rfl, ?hy521⟩) hHeld ?hn521
  case hy521 => (intro wz hSw; (try dsimp only at hSw); go_simp; first | done | with_reducible rfl)
  try simp only [List.getElem_toArray, List.getElem_cons_zero, List.getElem_cons_succ, Act.put, List.setIfInBounds_toArray, List.set_cons_zero, List.set_cons_succ]
  refine' wpAnyH_take (i := 22) (v := _) rfl (by kernel_rfl) (by kernel_rfl) (by kernel_rfl) (fun _ _ _ h => h) (Or.inl ⟨by rfl, ?hy522⟩) hHeld ?hn522
  case hy522 => (intro wz hSw; (try dsimp only at hSw); go_simp; first | done | with_reducible rfl)
  try simp only [List.getElem_toArray, List.getElem_cons_zero, List.getElem_cons_succ, Act.put, List.setIfInBounds_toArray, List.set_cons_zero, List.set_cons_succ]
  refine' wpAnyH_take (i := 23) (v := (.slice (some ⟨xg, xo, none⟩) rs1.n.length xac)) rfl (by kernel_rfl) (by kernel_rfl) (by kernel_rfl) (fun _ _ _ h => h) (Or.inl ⟨by rfl, ?hy523⟩) hHeld ?hn523
  case hy523 => (intro wz hSw; have k := cell_later hSw x0; go_simp)
  try simp only [List.getElem_toArray, List.getElem_cons_zero, List.getElem_cons_succ, Act.put, List.setIfInBounds_toArray, List.set_cons_zero, List.set_cons_succ]
  refine' wpAnyH_take (i := 24) (v := _) rfl (by kernel_rfl) (by kernel_rfl) (by kernel_rfl) (fun _ _ _ h => h) (Or.inl ⟨by rfl, ?hy524⟩) hHeld ?hn524
  case hy524 => (intro wz hSw; (try dsimp only at hSw); go_simp; first | done | with_reducible rfl)
  try simp only [List.getElem_toArray, List.getElem_cons_zero, List.getElem_cons_succ, Act.put, List.setIfInBounds_toArray, List.set_cons_zero, List.set_cons_succ]
  refine' wpAnyH_take (i := 25) (v := (.int .i64 Z1)) rfl (by kernel_rfl) (by kernel_rfl) (by kernel_rfl) (fun _ _ _ h => h) (Or.inl ⟨by rfl, ?hy525⟩) hHeld ?hn525
  case hy525 => (intro wz hSw; have k := cell_later hSw c1; go_simp)
  try simp only [List.getElem_toArray, List.getElem_cons_zero, List.getElem_cons_succ, Act.put, List.setIfInBounds_toArray, List.set_cons_zero, List.set_cons_succ]
  refine' wpAnyH_take (i := 26) (v := _) rfl (by kernel_rfl) (by kernel_rfl) (by kernel_rfl) (fun _ _ _ h => h) (Or.inl ⟨by rfl, ?hy526⟩) hHeld ?hn526
  case hy526 => (intro wz hSw; (try dsimp only at hSw); go_simp; first | done | with_reducible rfl)
  try simp only [List.getElem_toArray, List.getElem_cons_zero, List.getElem_cons_succ, Act.put, List.setIfInBounds_toArray, List.set_cons_zero, List.set_cons_succ]
  refine' wpAnyH_take (i := 27) (v := _) rfl (by kernel_rfl) (by kernel_rfl) (by kernel_rfl) (fun _ _ _ h => h) (Or.inl ⟨by rfl, ?hy527⟩) hHeld ?hn527
  case hy527 => (intro wz hSw; (try dsimp only at hSw); go_simp; first | done | with_reducible rfl)
  try simp only [List.getElem_toArray, List.getElem_cons_zero, List.getElem_cons_succ, Act.put, List.setIfInBounds_toArray, List.set_cons_zero, List.set_cons_succ]
  refine' wpAnyH_take (i := 28) (v := (.int .i64 Z1)) rfl (by kernel_rfl) (by kernel_rfl) (by kernel_rfl) (fun _ _ _ h => h) (Or.inl ⟨by rfl, ?hy528⟩) hHeld ?hn528
  case hy528 => (intro wz hSw; have k := cell_later hSw c2; go_simp)
  try simp only [List.getElem_toArray, List.getElem_cons_zero, List.getElem_cons_succ, Act.put, List.setIfInBounds_toArray, List.set_cons_zero, List.set_cons_succ]
  refine' wpAnyH_take (i := 29) (v := _) rfl (by kernel_rfl) (by kernel_rfl) (by kernel_rfl) (fun _ _ _ h => h) (Or.inl ⟨by rfl, ?hy529⟩) hHeld ?hn529
  case hy529 => (intro wz hSw; (try dsimp only at hSw); go_simp; first | done | with_reducible rfl)
  try simp only [List.getElem_toArray, List.getElem_cons_zero, List.getElem_cons_succ, Act.put, List.setIfInBounds_toArray, List.set_cons_zero, List.set_cons_succ]
  refine' wpAnyH_take (i := 30) (v := _) rfl (by kernel_rfl) (by kernel_rfl) (by kernel_rfl) (fun _ _ _ h => h) (Or.inl ⟨by rfl, ?hy530⟩) hHeld ?hn530
  case hy530 => (intro wz hSw; (try dsimp only at hSw); go_simp; first | done | with_reducible rfl)
  try simp only [List.getElem_toArray, List.getElem_cons_zero, List.getElem_cons_succ, Act.put, List.setIfInBounds_toArray, List.set_cons_zero, List.set_cons_succ]
  refine' wpAnyH_take (i := 31) (v := _) rfl (by kernel_rfl) (by kernel_rfl) (by kernel_rfl) (fun _ _ _ h => h) (Or.inl ⟨by rfl, ?hy531⟩) hHeld ?hn531
  case hy531 => (intro wz hSw; (try dsimp only at hSw); go_simp; first | done | with_reducible rfl)
  try simp only [List.getElem_toArray, List.getElem_cons_zero, List.getElem_cons_succ, Act.put, List.setIfInBounds_toArray, List.set_cons_zero, List.set_cons_succ]
  refine wpAnyH_done (by kernel_rfl) ?_ _
  have HBq : Hid (Below w.heap.size w _) := Below.then HB9.out hHeld HB9.out.size
  clear hHeld
  go_wp2
  go_ret
  exact ⟨rfl, HBq.out⟩

end Go.Proofs.Ytepacahfpbedoaa
