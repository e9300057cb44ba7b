/- What comes of a program is what was set last: the law, walked. -/
import Derived.Test.YtepacahfpbedoaaPrl
import Derived.Test.YtepacahfpbedoaaLcx
import Derived.Test.YtepacahfpbedoaaDrs
import Derived.Test.YtepacahfpbedoaaKnw
namespace Go.Proofs.Ytepacahfpbedoaa
open Go.RowKit
set_option linter.unusedSimpArgs false
set_option linter.unusedVariables false
attribute [local go_sem ↓] Go.wp_at_zero Go.wp_at_succ
attribute [local go_sem] World.cell?_alloc_some

theorem map_set_int (l : List Int) (m : Nat) (y : Int) : (l.set m y).map (Value.int .i64) = (l.map (Value.int .i64)).set m (.int .i64 y) := by rw [List.map_set]
theorem putW_len (ws : List (Int × Int)) : ∀ (n : List Int), (ws.foldl putW n).length = n.length := by
  induction ws with
  | nil => intro n; rfl
  | cons a ws ih => intro n; rw [List.foldl_cons, ih]; simp [putW]

set_option maxHeartbeats 8000000 in
set_option maxRecDepth 20000 in
theorem fnRunOf_walk (a0 : Option Addr) (len0 cap0 : Nat) (z0 : List Int) (w : World) (h0 : IsRow .u8 w a0 len0 cap0 z0) :
    Calls Try.prog 4 #[.slice a0 len0 cap0] w fun e w' => e = .returned (.bool true) ∧ Below w.heap.size w w' := by
  by_cases hl0 : (1048576 : Int) < (len0 : Int)
  · go_enter Try.func4, Try.ntmps4
    go_wp2
    go_ret
    exact ⟨rfl, Below.refl _ _⟩
  have C1 : Hid _ := drawRunOf_any w a0 len0 cap0 z0 h0
  clear h0
  go_enter Try.func4, Try.ntmps4
  go_wp2_with fail
  go_at_call 16; refine Calls.mono C1.out ?_
  rintro e w1 ⟨lv, sv, nv, ls, d, l, zs, rfl, hLp, hRp, ⟨hN, ad, nc, rfl, -⟩, ll, cn, hb1⟩
  have hL := hLp.rep
  have hR := hRp.rep
  obtain ⟨la, lc, rfl, -⟩ := id hL
  obtain ⟨sa, sc, rfl⟩ := hR.slice
  have HLR : Hid (∀ wz, Below w1.heap.size w1 wz → LRep wz (.slice la ls.length lc) ls ∧ Rep wz (d + 1) (.slice sa (ln (d + 1) (l : List (Pay × Tr d × Tr d))) sc) (l : List (Pay × Tr d × Tr d)) ∧ GRep (Value.int .i64) wz (.slice (some ad) zs.length nc) zs) := (show ∀ wz, _ from fun wz hb => ⟨hL.below hb, hR.below hb, hN.below hb⟩)
  have HB1 : Hid (Below w.heap.size w w1) := hb1
  have A : Below w1.heap.size w1 (w1.alloc (.cells #[.slice la ls.length lc, .slice sa (ln (d + 1) (l : List (Pay × Tr d × Tr d))) sc] 26)) := (Below.refl _ _).alloc (Nat.le_refl _) _
  have G2 := C2.new w1 (.slice la ls.length lc) (.slice sa (ln (d + 1) (l : List (Pay × Tr d × Tr d))) sc) 26
  generalize hw2 : w1.alloc (.cells #[.slice la ls.length lc, .slice sa (ln (d + 1) (l : List (Pay × Tr d × Tr d))) sc] 26) = w2 at A G2
  have HW2 : Hid _ := hw2
  have HA : Hid (Below w1.heap.size w1 w2) := A
  have K2 : Hid _ := sRunOf_any (HLR.out w2 A).1 (HLR.out w2 A).2.1 (by omega) (HLR.out w2 A).2.2
  have HG2 : Hid (C2 w2 w1.heap.size (.slice la ls.length lc) (.slice sa (ln (d + 1) (l : List (Pay × Tr d × Tr d))) sc)) := G2
  obtain ⟨nb, hnb⟩ : ∃ nb, numsB ls (d + 1) (l : List (Pay × Tr d × Tr d)) zs = nb := ⟨_, rfl⟩
  obtain ⟨rs, hrs⟩ : ∃ rs, runS ls (d + 1) (l : List (Pay × Tr d × Tr d)) zs = rs := ⟨_, rfl⟩
  rw [hnb, hrs] at K2
  have HNB : Hid _ := hnb
  have HRS : Hid _ := hrs
  clear hLp hRp hb1 C1 A G2 hw2 hnb hrs hL hR hN
  go_wp2_with fail
  rw [HW2.out]
  go_at_call 17; refine Calls.mono K2.out ?_
  rintro e w3 ⟨vya, vyb, vyc, rfl, hb3, r3⟩
  obtain ⟨ya, yac, ha⟩ := rowg_slice r3.n
  obtain ⟨yb, ybc, hb⟩ := rowg_slice r3.ws
  obtain ⟨yc, ycc, hc⟩ := rowg_slice r3.ss
  subst ha hb hc
  have HB3 : Hid (Below w1.heap.size w1 w3) := Below.then HA.out hb3 HA.out.size
  have z2 : w1.heap.size < w2.heap.size := C2.lt' HG2.out
  have z3 : w1.heap.size < w3.heap.size := by have := hb3.size; omega
  have G3 := HG2.out.same (hb3.block _ z2)
  have HG3 : Hid (C2 w3 w1.heap.size (.slice la ls.length lc) (.slice sa (ln (d + 1) (l : List (Pay × Tr d × Tr d))) sc)) := G3
  have HY3 : Hid (GRep (Value.int .i64) w3 (.slice ya rs.n.length yac) rs.n ∧ LRep w3 (.slice yb rs.ws.length ybc) rs.ws ∧ LRep w3 (.slice yc rs.ss.length ycc) rs.ss) := r3.reps
  have A4 : Below w3.heap.size w3 (w3.alloc (.cells #[.slice ya rs.n.length yac, .slice yb rs.ws.length ybc, .slice yc rs.ss.length ycc] 44)) := (Below.refl _ _).alloc (Nat.le_refl _) _
  have G4 := C3.new w3 (.slice ya rs.n.length yac) (.slice yb rs.ws.length ybc) (.slice yc rs.ss.length ycc) 44
  generalize hw4 : w3.alloc (.cells #[.slice ya rs.n.length yac, .slice yb rs.ws.length ybc, .slice yc rs.ss.length ycc] 44) = w4 at A4 G4
  have HW4 : Hid _ := hw4
  have HG4 : Hid (C3 w4 w3.heap.size (.slice ya rs.n.length yac) (.slice yb rs.ws.length ybc) (.slice yc rs.ss.length ycc)) := G4
  have HA4 : Hid (Below w3.heap.size w3 w4) := A4
  have HB4 : Hid (Below w1.heap.size w1 w4) := Below.then HB3.out A4 HB3.out.size
  have K4 : Hid _ := runOf_any (HLR.out w4 HB4.out).1 (HLR.out w4 HB4.out).2.1 (HLR.out w4 HB4.out).2.2
  rw [HNB.out, HRS.out] at K4
  obtain ⟨⟨p0, p1⟩, -⟩ := G3
  clear hb3 K2 HG2 HA HW2 z2 r3 A4 G4 hw4
  go_wp2_with fail
  rw [HW4.out]
  go_at_call 18; refine Calls.mono K4.out ?_
  rintro e w5 ⟨vxa, vxb, vxc, rfl, hb5, r5⟩
  obtain ⟨xa, xac, ha⟩ := rowg_slice r5.n
  obtain ⟨xb, xbc, hb⟩ := rowg_slice r5.ws
  obtain ⟨xc, xcc, hc⟩ := rowg_slice r5.ss
  subst ha hb hc
  clear p0 p1
  have HB45 : Hid (Below w4.heap.size w4 w5) := hb5
  have HB35 : Hid (Below w3.heap.size w3 w5) := Below.then HA4.out hb5 HA4.out.size
  have HB5 : Hid (Below w1.heap.size w1 w5) := Below.then HB4.out hb5 HB4.out.size
  have HX5 : Hid (GRep (Value.int .i64) w5 (.slice xa rs.n.length xac) rs.n ∧ LRep w5 (.slice xb rs.ws.length xbc) rs.ws ∧ LRep w5 (.slice xc rs.ss.length xcc) rs.ss) := r5.reps
  have G5 : C3 w5 w3.heap.size (.slice ya rs.n.length yac) (.slice yb rs.ws.length ybc) (.slice yc rs.ss.length ycc) := HG4.out.below hb5
  have HG5 : Hid (C3 w5 w3.heap.size (.slice ya rs.n.length yac) (.slice yb rs.ws.length ybc) (.slice yc rs.ss.length ycc)) := G5
  have z5 : w3.heap.size < w5.heap.size := C3.lt G5
  have A6 : Below w5.heap.size w5 (w5.alloc (.cells #[.slice xa rs.n.length xac, .slice xb rs.ws.length xbc, .slice xc rs.ss.length xcc] 44)) := (Below.refl _ _).alloc (Nat.le_refl _) _
  have G6 := C3.new w5 (.slice xa rs.n.length xac) (.slice xb rs.ws.length xbc) (.slice xc rs.ss.length xcc) 44
  generalize hw6 : w5.alloc (.cells #[.slice xa rs.n.length xac, .slice xb rs.ws.length xbc, .slice xc rs.ss.length xcc] 44) = w6 at A6 G6
  have HW6 : Hid _ := hw6
  have HG6 : Hid (C3 w6 w5.heap.size (.slice xa rs.n.length xac) (.slice xb rs.ws.length xbc) (.slice xc rs.ss.length xcc)) := G6
  have HA6 : Hid (Below w5.heap.size w5 w6) := A6
  have HB6 : Hid (Below w1.heap.size w1 w6) := Below.then HB5.out A6 HB5.out.size
  have HB36 : Hid (Below w3.heap.size w3 w6) := Below.then HB35.out A6 HB35.out.size
  have K6 : Hid _ := lcRun_same (HX5.out.1.below A6) (HX5.out.2.1.below A6) (HX5.out.2.2.below A6) (HY3.out.1.below HB36.out) (HY3.out.2.1.below HB36.out) (HY3.out.2.2.below HB36.out)
  obtain ⟨⟨y0, y1, y2⟩, -⟩ := G5
  clear hb5 K4 HW4 r5 A6 G6 hw6 HB35
  cases nb
  · go_wp2_with fail
    rw [HW6.out]
    go_at_call 19; refine Calls.mono K6.out ?_
    rintro e w7 ⟨rfl, hb7⟩
    have HB7 : Hid (Below w1.heap.size w1 w7) := Below.then HB6.out hb7 HB6.out.size
    have HB57 : Hid (Below w5.heap.size w5 w7) := Below.then HA6.out hb7 HA6.out.size
    have HB37 : Hid (Below w3.heap.size w3 w7) := Below.then HB36.out hb7 HB36.out.size
    obtain ⟨⟨x0, x1, x2⟩, -⟩ := C3.below HG6.out hb7
    obtain ⟨⟨v0, v1, v2⟩, -⟩ := C3.below HG5.out HB57.out
    have K7 : Hid _ := lcRun_same (HX5.out.1.below HB57.out) (HX5.out.2.1.below HB57.out) (HX5.out.2.2.below HB57.out) (HY3.out.1.below HB37.out) (HY3.out.2.1.below HB37.out) (HY3.out.2.2.below HB37.out)
    clear hb7 y0 y1 y2 K6
    go_wp2_with fail
    go_at_call 19; refine Calls.mono K7.out ?_
    rintro e w8 ⟨rfl, hb8⟩
    have HB8 : Hid (Below w.heap.size w w8) := Below.then HB1.out (Below.then HB7.out hb8 HB7.out.size) HB1.out.size
    clear hb8 x0 x1 x2 v0 v1 v2 K7
    go_wp2
    go_ret
    exact ⟨rfl, HB8.out⟩
  go_wp2_with fail
  rw [HW6.out]
  go_at_call 19; refine Calls.mono K6.out ?_
  rintro e w7 ⟨rfl, hb7⟩
  have HB7 : Hid (Below w.heap.size w w7) := Below.then HB1.out (Below.then HB6.out hb7 HB6.out.size) HB1.out.size
  have HB57 : Hid (Below w5.heap.size w5 w7) := Below.then HA6.out hb7 HA6.out.size
  have HB17 : Hid (Below w1.heap.size w1 w7) := Below.then HB6.out hb7 HB6.out.size
  have HR7 : Hid (Ran w7 w1.heap.size w5.heap.size (.slice la ls.length lc) (.slice sa (ln (d + 1) (l : List (Pay × Tr d × Tr d))) sc) (.slice (some ad) zs.length nc) (.slice xa rs.n.length xac) (.slice xb rs.ws.length xbc) (.slice xc rs.ss.length xcc) ls d l zs rs) := ⟨(HLR.out w7 HB17.out).1, (HLR.out w7 HB17.out).2.1, (HLR.out w7 HB17.out).2.2, HG3.out.same ((HB57.out.block _ (by omega)).trans ((HB45.out.block _ (Nat.lt_of_lt_of_le z3 HA4.out.size)).trans (HA4.out.block _ z3))), C3.below HG6.out hb7, HX5.out.1.below HB57.out, HX5.out.2.1.below HB57.out, HX5.out.2.2.below HB57.out⟩
  have HDO : Hid (rs = doT (d + 1) (l : List (Pay × Tr d × Tr d)) ⟨zs, [], []⟩) := (show rs = _ by rw [← HRS.out]; unfold runS; rw [HNB.out]; rfl)
  clear hb7 y0 y1 y2 K6 HW6 HG6 HA6 HB6 HB36 HG5 HB57 HB17 HX5 HY3 HG4 HA4 HB45 HB4 HB3 HG3 HLR HB1 HB5 HRS z3 z5
  obtain ⟨i2, hk0, hj0, hj1, hj2⟩ := info_parts infoInt
  obtain ⟨hpb, hzl, hten⟩ := numsB_parts HNB.out
  obtain ⟨hls4, hlabs, hst, hcnt⟩ := progB_parts hpb
  have hz4 : zs.length ≤ 4 := by omega
  have hz1 : 0 < zs.length := by omega
  have HST : Hid _ := hst
  have HLABS : Hid _ := hlabs
  have HTEN : Hid _ := hten
  have HZL : Hid _ := hzl
  have HPB : Hid _ := hpb
  have HCN : Hid _ := hcnt
  have hok := doT_ok (d + 1) (l : List (Pay × Tr d × Tr d)) ls.length 3 ⟨zs, [], []⟩ hst hzl hten
  rw [← HDO.out] at hok
  have HOK : Hid _ := hok
  have HLE : Hid ((rs.ws.length : Int) + (rs.ss.length : Int) ≤ (cnt (d + 1) (l : List (Pay × Tr d × Tr d)) : Int)) := (show (rs.ws.length : Int) + (rs.ss.length : Int) ≤ (cnt (d + 1) (l : List (Pay × Tr d × Tr d)) : Int) by
    have := doT_both (d + 1) (l : List (Pay × Tr d × Tr d)) ⟨zs, [], []⟩
    rw [← HDO.out] at this
    simp at this; omega)
  have HW64 : Hid _ := w64 ((rs.ws.length : Int) + (rs.ss.length : Int)) (by have := HLE.out; omega)
  have HLW : Hid (rs.ws.length ≤ 8) := (show rs.ws.length ≤ 8 by have := HLE.out; omega)
  have HVR : Hid (∀ x ∈ rs.ws, vIn ls.length x.1 = true) := (show ∀ x ∈ rs.ws, vIn ls.length x.1 = true by
    rw [HDO.out]; exact doT_vars (d + 1) (l : List (Pay × Tr d × Tr d)) ls.length 3 ⟨zs, [], []⟩ hst (by simp))
  have HLS : Hid (rs.ws.foldl putW zs = rs.n) := (show rs.ws.foldl putW zs = rs.n by
    have := doT_last zs (d + 1) (l : List (Pay × Tr d × Tr d)) ⟨zs, [], []⟩ rfl
    rw [← HDO.out] at this
    exact this.symm)
  clear hok hpb hcnt hzl hten hlabs hst
  have A8 : Below w7.heap.size w7 (w7.alloc (.cells #[] 3)) := (Below.refl _ _).alloc (Nat.le_refl _) _
  have HN8 : Hid (GRep (Value.int .i64) (w7.alloc (.cells #[] 3)) (.slice (some ad) zs.length nc) zs) := HR7.out.N.below A8
  have HA8 : Hid (Below w7.heap.size w7 (w7.alloc (.cells #[] 3))) := A8
  clear A8
  go_wp2_with (at_builtin; refine wpList_append_own_at _ rfl _ _ 38 rfl w7.heap.size 3 i2 _ 1 8 Try.underlying38 hk0 hj0 hj1 hj2 rfl (by decide) _ _ _ rfl (made0 w7 3 1) ad zs.length nc (zs.map (Value.int .i64)) rfl (by simp) (ints_news HN8.out) (ints_one zs) ?c3 ?c4 ?c5 ?_)
  case c3 => unfold maxLen; omega
  case c4 => omega
  case c5 => simp
  intro v8 w8 own8 grow8 _ at8
  obtain ⟨g, gc, rfl, hg, hgc, hgm⟩ := row_open own8 hz1
  have HB8 : Hid (Below w7.heap.size w7 w8) := HA8.out.grown grow8 (by simp) (fun k hk => by cases hk; exact Nat.le_refl _)
  have HO8 : Hid _ := own8
  clear own8 grow8 at8 HN8 HA8
  go_wp2_with fail
  go_loopw [10] (fun j wr => ∃ (i : Nat), i ≤ rs.ws.length ∧ j = .int .i64 i ∧ Below w7.heap.size w7 wr ∧ wr.ownsRow w7.heap.size 3 1 (.slice (some ⟨g, 0, none⟩) zs.length gc) zs.length (((rs.ws.take i).foldl putW zs).map (Value.int .i64))) (fun j _ => rs.ws.length - (intOf j).toNat)
  case atStart => exact ⟨0, by omega, rfl, HB8.out, HO8.out⟩
  case round =>
    obtain ⟨i, hi, rfl, hbr, hor⟩ := hrel
    clear HB8 HO8
    obtain ⟨⟨kx0, kx1, kx2⟩, -⟩ := HR7.out.x
    obtain ⟨⟨kp0, kp1⟩, -⟩ := HR7.out.p
    have e0 := cell_later hbr kx0
    have e1 := cell_later hbr kx1
    have e2 := cell_later hbr kx2
    have hlw := HLW.out
    by_cases hlt : i < rs.ws.length
    · obtain ⟨xb', xbc', hxb, -, -, hcell⟩ := HR7.out.xw
      simp only [Value.slice.injEq] at hxb
      obtain ⟨rfl, -, rfl⟩ := hxb
      obtain ⟨b, off, rfl, k0, k1⟩ := hcell i hlt
      clear hcell
      have hv := HVR.out rs.ws[i] (List.getElem_mem hlt)
      obtain ⟨m, hm⟩ : ∃ m : Nat, rs.ws[i].1 = (m : Int) := ⟨rs.ws[i].1.toNat, by unfold vIn at hv; simp at hv; omega⟩
      have hml : m < zs.length := by unfold vIn at hv; simp at hv; have := HZL.out; omega
      obtain ⟨y, hy⟩ : ∃ y, rs.ws[i].2 = y := ⟨_, rfl⟩
      have HTK : Hid ((rs.ws.take (i + 1)).foldl putW zs = ((rs.ws.take i).foldl putW zs).set m y) := (show (rs.ws.take (i + 1)).foldl putW zs = ((rs.ws.take i).foldl putW zs).set m y by
        rw [List.take_succ_eq_append_getElem hlt, List.foldl_append]
        simp only [List.foldl_cons, List.foldl_nil, putW, hm, hy, Int.toNat_natCast])
      rw [hm] at k0
      rw [hy] at k1
      clear hv hm hy
      obtain ⟨u, hu, hf⟩ := row1_cell hor hml
      have hu' : wr.drew.cell? ⟨g, m, none⟩ = some u := hu
      have hf' : wr.drew.frozen? ⟨g, m, none⟩ = false := hf
      have HOR : Hid (wr.ownsRow w7.heap.size 3 1 (.slice (some ⟨g, 0, none⟩) zs.length gc) zs.length (((rs.ws.take i).foldl putW zs).map (Value.int .i64))) := hor
      have i0' : (0 : Int) ≤ (i : Int) := by omega
      have i1' : (i : Int) < (rs.ws.length : Int) := by omega
      have m0' : (0 : Int) ≤ (m : Int) := by omega
      have m1' : (m : Int) < (zs.length : Int) := by omega
      clear hor hu hf
      go_wp2_with fail
      refine wp_region_held (S := (fun wz => Below w7.heap.size w7 wz)) (by kernel_rfl) ?_
      change wpAnyH _ _ _ _ _ _ _ _ (World.drew _)
      have hHeld := hbr.drew
      refine' wpAnyH_take (i := 0) (v := _) rfl (by kernel_rfl) (by kernel_rfl) (by kernel_rfl) (fun _ _ _ h => h) (Or.inl ⟨by rfl, ?hy501⟩) hHeld ?hn501
      case hy501 => (intro wz hSw; (try dsimp only at hSw); go_simp; first | done | with_reducible rfl)
      try simp only [List.getElem_toArray, List.getElem_cons_zero, List.getElem_cons_succ, Act.put, List.setIfInBounds_toArray, List.set_cons_zero, List.set_cons_succ]
      refine' wpAnyH_take (i := 1) (v := _) rfl (by kernel_rfl) (by kernel_rfl) (by kernel_rfl) (fun _ _ _ h => h) (Or.inl ⟨by rfl, ?hy502⟩) hHeld ?hn502
      case hy502 => (intro wz hSw; (try dsimp only at hSw); go_simp; first | done | with_reducible rfl)
      try simp only [List.getElem_toArray, List.getElem_cons_zero, List.getElem_cons_succ, Act.put, List.setIfInBounds_toArray, List.set_cons_zero, List.set_cons_succ]
      refine' wpAnyH_take (i := 2) (v := (.slice (some ⟨b, off, none⟩) rs.ws.length xbc)) rfl (by kernel_rfl) (by kernel_rfl) (by kernel_rfl) (fun _ _ _ h => h) (Or.inl ⟨by rfl, ?hy503⟩) hHeld ?hn503
      case hy503 => (intro wz hSw; have k := cell_later hSw kx1; go_simp)
      try simp only [List.getElem_toArray, List.getElem_cons_zero, List.getElem_cons_succ, Act.put, List.setIfInBounds_toArray, List.set_cons_zero, List.set_cons_succ]
      refine' wpAnyH_take (i := 3) (v := _) rfl (by kernel_rfl) (by kernel_rfl) (by kernel_rfl) (fun _ _ _ h => h) (Or.inl ⟨by rfl, ?hy504⟩) hHeld ?hn504
      case hy504 => (intro wz hSw; (try dsimp only at hSw); go_simp; first | done | with_reducible rfl)
      try simp only [List.getElem_toArray, List.getElem_cons_zero, List.getElem_cons_succ, Act.put, List.setIfInBounds_toArray, List.set_cons_zero, List.set_cons_succ]
      refine' wpAnyH_take (i := 4) (v := _) rfl (by kernel_rfl) (by kernel_rfl) (by kernel_rfl) (fun _ _ _ h => h) (Or.inl ⟨by rfl, ?hy505⟩) hHeld ?hn505
      case hy505 => (intro wz hSw; (try dsimp only at hSw); go_simp; first | done | with_reducible rfl)
      try simp only [List.getElem_toArray, List.getElem_cons_zero, List.getElem_cons_succ, Act.put, List.setIfInBounds_toArray, List.set_cons_zero, List.set_cons_succ]
      refine' wpAnyH_take (i := 5) (v := _) rfl (by kernel_rfl) (by kernel_rfl) (by kernel_rfl) (fun _ _ _ h => h) (Or.inl ⟨by rfl, ?hy506⟩) hHeld ?hn506
      case hy506 => (intro wz hSw; (try dsimp only at hSw); go_simp; first | done | with_reducible rfl)
      try simp only [List.getElem_toArray, List.getElem_cons_zero, List.getElem_cons_succ, Act.put, List.setIfInBounds_toArray, List.set_cons_zero, List.set_cons_succ]
      refine' wpAnyH_take (i := 6) (v := (.int .i64 (m : Int))) rfl (by kernel_rfl) (by kernel_rfl) (by kernel_rfl) (fun _ _ _ h => h) (Or.inl ⟨by rfl, ?hy507⟩) hHeld ?hn507
      case hy507 => (intro wz hSw; have k := cell_later hSw k0; go_simp)
      try simp only [List.getElem_toArray, List.getElem_cons_zero, List.getElem_cons_succ, Act.put, List.setIfInBounds_toArray, List.set_cons_zero, List.set_cons_succ]
      refine' wpAnyH_take (i := 7) (v := _) rfl (by kernel_rfl) (by kernel_rfl) (by kernel_rfl) (fun _ _ _ h => h) (Or.inl ⟨by rfl, ?hy508⟩) hHeld ?hn508
      case hy508 => (intro wz hSw; (try dsimp only at hSw); go_simp; first | done | with_reducible rfl)
      try simp only [List.getElem_toArray, List.getElem_cons_zero, List.getElem_cons_succ, Act.put, List.setIfInBounds_toArray, List.set_cons_zero, List.set_cons_succ]
      refine' wpAnyH_take (i := 8) (v := (.slice (some ⟨b, off, none⟩) rs.ws.length xbc)) rfl (by kernel_rfl) (by kernel_rfl) (by kernel_rfl) (fun _ _ _ h => h) (Or.inl ⟨by rfl, ?hy509⟩) hHeld ?hn509
      case hy509 => (intro wz hSw; have k := cell_later hSw kx1; go_simp)
      try simp only [List.getElem_toArray, List.getElem_cons_zero, List.getElem_cons_succ, Act.put, List.setIfInBounds_toArray, List.set_cons_zero, List.set_cons_succ]
      refine' wpAnyH_take (i := 9) (v := _) rfl (by kernel_rfl) (by kernel_rfl) (by kernel_rfl) (fun _ _ _ h => h) (Or.inl ⟨by rfl, ?hy510⟩) hHeld ?hn510
      case hy510 => (intro wz hSw; (try dsimp only at hSw); go_simp; first | done | with_reducible rfl)
      try simp only [List.getElem_toArray, List.getElem_cons_zero, List.getElem_cons_succ, Act.put, List.setIfInBounds_toArray, List.set_cons_zero, List.set_cons_succ]
      refine' wpAnyH_take (i := 10) (v := _) rfl (by kernel_rfl) (by kernel_rfl) (by kernel_rfl) (fun _ _ _ h => h) (Or.inl ⟨by rfl, ?hy511⟩) hHeld ?hn511
      case hy511 => (intro wz hSw; (try dsimp only at hSw); go_simp; first | done | with_reducible rfl)
      try simp only [List.getElem_toArray, List.getElem_cons_zero, List.getElem_cons_succ, Act.put, List.setIfInBounds_toArray, List.set_cons_zero, List.set_cons_succ]
      refine' wpAnyH_take (i := 11) (v := _) rfl (by kernel_rfl) (by kernel_rfl) (by kernel_rfl) (fun _ _ _ h => h) (Or.inl ⟨by rfl, ?hy512⟩) hHeld ?hn512
      case hy512 => (intro wz hSw; (try dsimp only at hSw); go_simp; first | done | with_reducible rfl)
      try simp only [List.getElem_toArray, List.getElem_cons_zero, List.getElem_cons_succ, Act.put, List.setIfInBounds_toArray, List.set_cons_zero, List.set_cons_succ]
      refine' wpAnyH_take (i := 12) (v := (.int .i64 y)) rfl (by kernel_rfl) (by kernel_rfl) (by kernel_rfl) (fun _ _ _ h => h) (Or.inl ⟨by rfl, ?hy513⟩) hHeld ?hn513
      case hy513 => (intro wz hSw; have k := cell_later hSw k1; go_simp)
      try simp only [List.getElem_toArray, List.getElem_cons_zero, List.getElem_cons_succ, Act.put, List.setIfInBounds_toArray, List.set_cons_zero, List.set_cons_succ]
      refine' wpAnyH_take (i := 13) (v := (.pointer (some ⟨g, m, none⟩))) rfl (by kernel_rfl) (by kernel_rfl) (by kernel_rfl) (fun _ _ _ h => h) (Or.inl ⟨by rfl, ?hy514⟩) hHeld ?hn514
      case hy514 => (intro wz hSw; go_simp; first | done | simp)
      try simp only [List.getElem_toArray, List.getElem_cons_zero, List.getElem_cons_succ, Act.put, List.setIfInBounds_toArray, List.set_cons_zero, List.set_cons_succ]
      refine wpAnyH_ready (rs := [14]) (by kernel_rfl) (by simp) ?_
      refine AllReadyH.cons rfl (fun K hK => ?_) AllReadyH.nil
      go_simp
      
      refine hK.out _ _ (hHeld.setCell (by show w7.heap.size ≤ g; omega) _) (fun hHeld => ?_)
      clear hK K
      refine wpAnyH_done (by kernel_rfl) ?_ _
      have HBq : Hid _ := hHeld
      clear hHeld
      go_wp2
      refine ⟨⟨i + 1, by omega, by simp, HBq.out, ?_⟩, by simp [intOf]; omega⟩
      rw [HTK.out, map_set_int]
      have := (World.ownsRow.stored HOR.out m (.int .i64 y)).1
      exact this
    · have hie : i = rs.ws.length := by omega
      subst hie
      rw [List.take_length, HLS.out] at hor
      replace kx0 := e0
      replace kx1 := e1
      replace kx2 := e2
      replace kp0 := cell_later hbr kp0
      replace kp1 := cell_later hbr kp1
      have HRr : Hid (Ran wr w1.heap.size w5.heap.size (.slice la ls.length lc) (.slice sa (ln (d + 1) (l : List (Pay × Tr d × Tr d))) sc) (.slice (some ad) zs.length nc) (.slice xa rs.n.length xac) (.slice xb rs.ws.length xbc) (.slice xc rs.ss.length xcc) ls d l zs rs) := HR7.out.below hbr
      have hnl : rs.n.length = zs.length := by have := HOK.out.1; have := HZL.out; omega
      have hng : GRep (Value.int .i64) wr (.slice (some ⟨g, 0, none⟩) zs.length gc) rs.n := by
        rw [← hnl] at hor ⊢
        obtain ⟨_, h1, _⟩ := row_gown hor
        exact h1.rep
      have KI : Hid (∀ wz, Below wr.heap.size wr wz → Calls Try.prog 20 #[.slice (some ⟨g, 0, none⟩) zs.length gc, .slice xa rs.n.length xac] wz fun e w' => e = .returned (.bool true) ∧ Below wz.heap.size wz w') := (show ∀ wz, _ from fun wz hb => by
        have := lcInts_any (hng.below hb) (HRr.out.xn.below hb)
        rwa [decide_eq_true rfl] at this)
      have KN : Hid (∀ wz, Below wr.heap.size wr wz → Calls Try.prog 21 #[.agg #[.slice la ls.length lc, .slice sa (ln (d + 1) (l : List (Pay × Tr d × Tr d))) sc], .slice xa rs.n.length xac] wz fun e w' => e = .returned (.bool true) ∧ Below wz.heap.size wz w') := (show ∀ wz, _ from fun wz hb => by
        have := numsOk_any (HRr.out.L.below hb) (HRr.out.T.below hb) (HRr.out.xn.below hb)
        have e : numsB ls (d + 1) (l : List (Pay × Tr d × Tr d)) rs.n = true := by
          unfold numsB; rw [HPB.out]; simp [HOK.out.1, HOK.out.2.1]
        rwa [e] at this)
      have KS : Hid (∀ wz, Below wr.heap.size wr wz → Calls Try.prog 15 #[.agg #[.slice la ls.length lc, .slice sa (ln (d + 1) (l : List (Pay × Tr d × Tr d))) sc]] wz fun e w' => e = .returned (.int .i64 (cnt (d + 1) (l : List (Pay × Tr d × Tr d)) : Int)) ∧ Below wz.heap.size wz w') := (show ∀ wz, _ from fun wz hb => by
        have := progSize_any (HRr.out.L.below hb) (HRr.out.T.below hb)
        rwa [if_pos HPB.out] at this)
      have HBr : Hid (Below w7.heap.size w7 wr) := hbr
      generalize cnt (d + 1) (l : List (Pay × Tr d × Tr d)) = cn8 at HLE KS
      clear hbr hor hng e0 e1 e2 hnl
      go_wp2_with fail
      refine wp_region_held (S := (fun wz => Below wr.heap.size wr wz)) (by kernel_rfl) ?_
      change wpAnyH _ _ _ _ _ _ _ _ (World.drew _)
      have hHeld := (Below.refl wr.heap.size wr).drew
      refine' wpAnyH_take (i := 0) (v := _) rfl (by kernel_rfl) (by kernel_rfl) (by kernel_rfl) (fun _ _ _ h => h) (Or.inl ⟨by rfl, ?hy515⟩) hHeld ?hn515
      case hy515 => (intro wz hSw; (try dsimp only at hSw); go_simp; first | done | with_reducible rfl)
      try simp only [List.getElem_toArray, List.getElem_cons_zero, List.getElem_cons_succ, Act.put, List.setIfInBounds_toArray, List.set_cons_zero, List.set_cons_succ]
      refine' wpAnyH_take (i := 1) (v := _) rfl (by kernel_rfl) (by kernel_rfl) (by kernel_rfl) (fun _ _ _ h => h) (Or.inl ⟨by rfl, ?hy516⟩) hHeld ?hn516
      case hy516 => (intro wz hSw; (try dsimp only at hSw); go_simp; first | done | with_reducible rfl)
      try simp only [List.getElem_toArray, List.getElem_cons_zero, List.getElem_cons_succ, Act.put, List.setIfInBounds_toArray, List.set_cons_zero, List.set_cons_succ]
      refine' wpAnyH_take (i := 2) (v := (.slice xa rs.n.length xac)) rfl (by kernel_rfl) (by kernel_rfl) (by kernel_rfl) (fun _ _ _ h => h) (Or.inl ⟨by rfl, ?hy517⟩) hHeld ?hn517
      case hy517 => (intro wz hSw; have k := cell_later hSw kx0; go_simp)
      try simp only [List.getElem_toArray, List.getElem_cons_zero, List.getElem_cons_succ, Act.put, List.setIfInBounds_toArray, List.set_cons_zero, List.set_cons_succ]
      refine wpAnyH_ready (rs := [3]) (by kernel_rfl) (by simp) ?_
      refine AllReadyH.cons rfl (fun K hK => ?_) AllReadyH.nil
      go_simp
      refine Calls.mono (KI.out _ hHeld) ?_; rintro e' w9 ⟨rfl, hbx⟩
      refine hK.out _ _ (Below.then hHeld hbx hHeld.size) (fun hHeld => ?_)
      clear hK K
      refine' wpAnyH_take (i := 4) (v := _) rfl (by kernel_rfl) (by kernel_rfl) (by kernel_rfl) (fun _ _ _ h => h) (Or.inl ⟨by rfl, ?hy518⟩) hHeld ?hn518
      case hy518 => (intro wz hSw; (try dsimp only at hSw); go_simp; first | done | with_reducible rfl)
      try simp only [List.getElem_toArray, List.getElem_cons_zero, List.getElem_cons_succ, Act.put, List.setIfInBounds_toArray, List.set_cons_zero, List.set_cons_succ]
      refine' wpAnyH_take (i := 5) (v := (.agg #[.slice la ls.length lc, .slice sa (ln (d + 1) (l : List (Pay × Tr d × Tr d))) sc])) rfl (by kernel_rfl) (by kernel_rfl) (by kernel_rfl) (fun _ _ _ h => h) (Or.inl ⟨by rfl, ?hy519⟩) hHeld ?hn519
      case hy519 => (intro wz hSw; have k := cell_later hSw kp0; have k' := cell_later hSw kp1; go_simp)
      try simp only [List.getElem_toArray, List.getElem_cons_zero, List.getElem_cons_succ, Act.put, List.setIfInBounds_toArray, List.set_cons_zero, List.set_cons_succ]
      refine' wpAnyH_take (i := 6) (v := _) rfl (by kernel_rfl) (by kernel_rfl) (by kernel_rfl) (fun _ _ _ h => h) (Or.inl ⟨by rfl, ?hy520⟩) hHeld ?hn520
      case hy520 => (intro wz hSw; (try dsimp only at hSw); go_simp; first | done | with_reducible rfl)
      try simp only [List.getElem_toArray, List.getElem_cons_zero, List.getElem_cons_succ, Act.put, List.setIfInBounds_toArray, List.set_cons_zero, List.set_cons_succ]
      refine' wpAnyH_take (i := 7) (v := (.slice xa rs.n.length xac)) rfl (by kernel_rfl) (by kernel_rfl) (by kernel_rfl) (fun _ _ _ h => h) (Or.inl ⟨by rfl, ?hy521⟩) hHeld ?hn521
      case hy521 => (intro wz hSw; have k := cell_later hSw kx0; go_simp)
      try simp only [List.getElem_toArray, List.getElem_cons_zero, List.getElem_cons_succ, Act.put, List.setIfInBounds_toArray, List.set_cons_zero, List.set_cons_succ]
      refine wpAnyH_ready (rs := [8]) (by kernel_rfl) (by simp) ?_
      refine AllReadyH.cons rfl (fun K hK => ?_) AllReadyH.nil
      go_simp
      refine Calls.mono (KN.out _ hHeld) ?_; rintro e' w9 ⟨rfl, hbx⟩
      refine hK.out _ _ (Below.then hHeld hbx hHeld.size) (fun hHeld => ?_)
      clear hK K
      refine' wpAnyH_take (i := 9) (v := _) rfl (by kernel_rfl) (by kernel_rfl) (by kernel_rfl) (fun _ _ _ h => h) (Or.inl ⟨by rfl, ?hy522⟩) hHeld ?hn522
      case hy522 => (intro wz hSw; (try dsimp only at hSw); go_simp; first | done | with_reducible rfl)
      try simp only [List.getElem_toArray, List.getElem_cons_zero, List.getElem_cons_succ, Act.put, List.setIfInBounds_toArray, List.set_cons_zero, List.set_cons_succ]
      refine' wpAnyH_take (i := 10) (v := _) rfl (by kernel_rfl) (by kernel_rfl) (by kernel_rfl) (fun _ _ _ h => h) (Or.inl ⟨by rfl, ?hy523⟩) hHeld ?hn523
      case hy523 => (intro wz hSw; (try dsimp only at hSw); go_simp; first | done | with_reducible rfl)
      try simp only [List.getElem_toArray, List.getElem_cons_zero, List.getElem_cons_succ, Act.put, List.setIfInBounds_toArray, List.set_cons_zero, List.set_cons_succ]
      refine' wpAnyH_take (i := 11) (v := _) rfl (by kernel_rfl) (by kernel_rfl) (by kernel_rfl) (fun _ _ _ h => h) (Or.inl ⟨by rfl, ?hy524⟩) hHeld ?hn524
      case hy524 => (intro wz hSw; (try dsimp only at hSw); go_simp; first | done | with_reducible rfl)
      try simp only [List.getElem_toArray, List.getElem_cons_zero, List.getElem_cons_succ, Act.put, List.setIfInBounds_toArray, List.set_cons_zero, List.set_cons_succ]
      refine' wpAnyH_take (i := 12) (v := (.slice xb rs.ws.length xbc)) rfl (by kernel_rfl) (by kernel_rfl) (by kernel_rfl) (fun _ _ _ h => h) (Or.inl ⟨by rfl, ?hy525⟩) hHeld ?hn525
      case hy525 => (intro wz hSw; have k := cell_later hSw kx1; go_simp)
      try simp only [List.getElem_toArray, List.getElem_cons_zero, List.getElem_cons_succ, Act.put, List.setIfInBounds_toArray, List.set_cons_zero, List.set_cons_succ]
      refine' wpAnyH_take (i := 13) (v := _) rfl (by kernel_rfl) (by kernel_rfl) (by kernel_rfl) (fun _ _ _ h => h) (Or.inl ⟨by rfl, ?hy526⟩) hHeld ?hn526
      case hy526 => (intro wz hSw; (try dsimp only at hSw); go_simp; first | done | with_reducible rfl)
      try simp only [List.getElem_toArray, List.getElem_cons_zero, List.getElem_cons_succ, Act.put, List.setIfInBounds_toArray, List.set_cons_zero, List.set_cons_succ]
      refine' wpAnyH_take (i := 14) (v := _) rfl (by kernel_rfl) (by kernel_rfl) (by kernel_rfl) (fun _ _ _ h => h) (Or.inl ⟨by rfl, ?hy527⟩) hHeld ?hn527
      case hy527 => (intro wz hSw; (try dsimp only at hSw); go_simp; first | done | with_reducible rfl)
      try simp only [List.getElem_toArray, List.getElem_cons_zero, List.getElem_cons_succ, Act.put, List.setIfInBounds_toArray, List.set_cons_zero, List.set_cons_succ]
      refine' wpAnyH_take (i := 15) (v := (.slice xc rs.ss.length xcc)) rfl (by kernel_rfl) (by kernel_rfl) (by kernel_rfl) (fun _ _ _ h => h) (Or.inl ⟨by rfl, ?hy528⟩) hHeld ?hn528
      case hy528 => (intro wz hSw; have k := cell_later hSw kx2; go_simp)
      try simp only [List.getElem_toArray, List.getElem_cons_zero, List.getElem_cons_succ, Act.put, List.setIfInBounds_toArray, List.set_cons_zero, List.set_cons_succ]
      refine' wpAnyH_take (i := 16) (v := _) rfl (by kernel_rfl) (by kernel_rfl) (by kernel_rfl) (fun _ _ _ h => h) (Or.inl ⟨by rfl, ?hy529⟩) hHeld ?hn529
      case hy529 => (intro wz hSw; (try dsimp only at hSw); go_simp; first | done | with_reducible rfl)
      try simp only [List.getElem_toArray, List.getElem_cons_zero, List.getElem_cons_succ, Act.put, List.setIfInBounds_toArray, List.set_cons_zero, List.set_cons_succ]
      refine' wpAnyH_take (i := 17) (v := (.int .i64 ((rs.ws.length : Int) + (rs.ss.length : Int)))) rfl (by kernel_rfl) (by kernel_rfl) (by kernel_rfl) (fun _ _ _ h => h) (Or.inl ⟨by rfl, ?hy530⟩) hHeld ?hn530
      case hy530 => (intro wz hSw; have hw := HW64.out; go_simp)
      try simp only [List.getElem_toArray, List.getElem_cons_zero, List.getElem_cons_succ, Act.put, List.setIfInBounds_toArray, List.set_cons_zero, List.set_cons_succ]
      refine' wpAnyH_take (i := 18) (v := (.agg #[.slice la ls.length lc, .slice sa (ln (d + 1) (l : List (Pay × Tr d × Tr d))) sc])) rfl (by kernel_rfl) (by kernel_rfl) (by kernel_rfl) (fun _ _ _ h => h) (Or.inl ⟨by rfl, ?hy531⟩) hHeld ?hn531
      case hy531 => (intro wz hSw; have k := cell_later hSw kp0; have k' := cell_later hSw kp1; go_simp)
      try simp only [List.getElem_toArray, List.getElem_cons_zero, List.getElem_cons_succ, Act.put, List.setIfInBounds_toArray, List.set_cons_zero, List.set_cons_succ]
      refine wpAnyH_ready (rs := [19]) (by kernel_rfl) (by simp) ?_
      refine AllReadyH.cons rfl (fun K hK => ?_) AllReadyH.nil
      go_simp
      refine Calls.mono (KS.out _ hHeld) ?_; rintro e' w9 ⟨rfl, hbx⟩
      refine hK.out _ _ (Below.then hHeld hbx hHeld.size) (fun hHeld => ?_)
      clear hK K
      refine' wpAnyH_take (i := 20) (v := (.bool true)) rfl (by kernel_rfl) (by kernel_rfl) (by kernel_rfl) (fun _ _ _ h => h) (Or.inl ⟨by rfl, ?hy532⟩) hHeld ?hn532
      case hy532 => (intro wz hSw; have hle := HLE.out; go_simp; first | done | simp)
      try simp only [List.getElem_toArray, List.getElem_cons_zero, List.getElem_cons_succ, Act.put, List.setIfInBounds_toArray, List.set_cons_zero, List.set_cons_succ]
      refine' wpAnyH_take (i := 21) (v := _) rfl (by kernel_rfl) (by kernel_rfl) (by kernel_rfl) (fun _ _ _ h => h) (Or.inl ⟨by rfl, ?hy533⟩) hHeld ?hn533
      case hy533 => (intro wz hSw; (try dsimp only at hSw); go_simp; first | done | with_reducible rfl)
      try simp only [List.getElem_toArray, List.getElem_cons_zero, List.getElem_cons_succ, Act.put, List.setIfInBounds_toArray, List.set_cons_zero, List.set_cons_succ]
      refine' wpAnyH_take (i := 22) (v := _) rfl (by kernel_rfl) (by kernel_rfl) (by kernel_rfl) (fun _ _ _ h => h) (Or.inl ⟨by rfl, ?hy534⟩) hHeld ?hn534
      case hy534 => (intro wz hSw; (try dsimp only at hSw); go_simp; first | done | with_reducible rfl)
      try simp only [List.getElem_toArray, List.getElem_cons_zero, List.getElem_cons_succ, Act.put, List.setIfInBounds_toArray, List.set_cons_zero, List.set_cons_succ]
      refine wpAnyH_done (by kernel_rfl) ?_ _
      have HBq : Hid (Below w.heap.size w _) := Below.then HB7.out (Below.then HBr.out hHeld HBr.out.size) HB7.out.size
      clear hHeld
      go_wp2
      go_ret
      exact ⟨rfl, HBq.out⟩

end Go.Proofs.Ytepacahfpbedoaa
