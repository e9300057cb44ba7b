/- With the rows that are told something else is set that a host trusts: the law, walked. -/
import Derived.Test.YtlhfbhidgabgbaaLsLem
import Derived.Test.YtlhfbhidgabgbaaLsLef
import Derived.Test.YtlhfbhidgabgbaaLsLcx
import Derived.Deep.RegionHeld3
import Derived.Deep.DrawnRows
namespace Go.Proofs.Ytlhfbhidgabgbaa
open Go.RowKit
set_option linter.unusedSimpArgs false
set_option linter.unusedVariables false
attribute [local go_sem ↓] Go.wp_at_zero Go.wp_at_succ
attribute [local go_sem] World.cell?_alloc_some

set_option maxHeartbeats 16000000 in
set_option maxRecDepth 20000 in
theorem fnSwayOf_walk (a0 : Option Addr) (len0 cap0 : Nat) (z0 : List Int) (w : World) (h0 : IsRow .u8 w a0 len0 cap0 z0) :
    Calls Try.prog 6 #[.slice a0 len0 cap0] w fun e w' => e = .returned (.bool true) ∧ Below w.heap.size w w' := by
  by_cases hl0 : (1048576 : Int) < (len0 : Int)
  · go_enter Try.func6, Try.ntmps6
    go_wp2
    go_ret
    exact ⟨rfl, Below.refl _ _⟩
  have C1 : Hid _ := drawSwayOf_any w a0 len0 cap0 z0 h0
  clear h0
  go_enter Try.func6, Try.ntmps6
  go_wp2_with fail
  go_at_call 23; refine Calls.mono C1.out ?_
  rintro e w1 ⟨la, sa, lc, sc, ls, d, l, h, rfl, hL, hR, ll, cn, hb1⟩
  have HB1 : Hid (Below w.heap.size w w1) := hb1
  have A2 : Below w1.heap.size w1 (w1.alloc (.cells #[.slice la ls.length lc, .slice sa (ln (d + 1) (l : List (Pay × Tr d × Tr d))) sc] 26)) := (Below.refl _ _).alloc (Nat.le_refl _) _
  obtain ⟨w2, hw2⟩ : ∃ W, w1.alloc (.cells #[.slice la ls.length lc, .slice sa (ln (d + 1) (l : List (Pay × Tr d × Tr d))) sc] 26) = W := ⟨_, rfl⟩
  have p0 : w2.cell? ⟨w1.heap.size, 0, none⟩ = some (.slice la ls.length lc) := by rw [← hw2]; simp
  have p1 : w2.cell? ⟨w1.heap.size, 1, none⟩ = some (.slice sa (ln (d + 1) (l : List (Pay × Tr d × Tr d))) sc) := by rw [← hw2]; simp
  rw [hw2] at A2
  have HW2 : Hid _ := hw2
  have K2 : Hid _ := sSwayOf_any h (hL.below A2) (hR.below A2) (by omega)
  have HRR : Hid (∀ wz, Below w1.heap.size w1 wz → LRep wz (.slice la ls.length lc) ls ∧ Rep wz (d + 1) (.slice sa (ln (d + 1) (l : List (Pay × Tr d × Tr d))) sc) (l : List (Pay × Tr d × Tr d))) := (show ∀ wz, _ from fun wz hb => ⟨hL.below hb, hR.below hb⟩)
  have HA2 : Hid (Below w1.heap.size w1 w2) := A2
  obtain ⟨okb, hok⟩ : ∃ x, (progB ls (d + 1) (l : List (Pay × Tr d × Tr d)) && vIn 3 h) = x := ⟨_, rfl⟩
  obtain ⟨P, hP⟩ : ∃ x, (swayP ls (d + 1) (l : List (Pay × Tr d × Tr d)) (trustL ls h)) = x := ⟨_, rfl⟩
  rw [hok, hP] at K2
  have HOK : Hid _ := hok
  have HPP : Hid _ := hP
  have HLL : Hid (1 ≤ ls.length ∧ ls.length ≤ 8) := ll
  have HCN : Hid (cnt (d + 1) (l : List (Pay × Tr d × Tr d)) ≤ 400) := cn
  clear hok hP hw2 A2 hL hR hb1 C1 ll cn
  go_wp2_with fail
  rw [HW2.out]
  clear HW2
  (try go_at_call 24); refine Calls.mono K2.out ?_
  rintro e w3 ⟨o, va, vb, hF, rfl, hb3, ga, gb⟩
  obtain ⟨va1, va2, va3⟩ := id ga
  obtain ⟨vb1, vb2, vb3⟩ := id gb
  obtain rfl := va3.1
  obtain rfl := vb3.1
  have HF : Hid _ := hF
  have HB3 : Hid (Below w2.heap.size w2 w3) := hb3
  have HGAB : Hid (∀ wz, Below w3.heap.size w3 wz → GRep (Value.int .i64) wz (.slice va1 (rowsO ls.length o).1.length va2) (rowsO ls.length o).1 ∧ GRep (Value.int .i64) wz (.slice vb1 (rowsO ls.length o).2.length vb2) (rowsO ls.length o).2) := (show ∀ wz, _ from fun wz hb => ⟨ga.below hb, gb.below hb⟩)
  have HB13 : Hid (Below w1.heap.size w1 w3) := Below.then HA2.out hb3 HA2.out.size
  have K4 : Hid _ := swayOf_any h (HRR.out _ HB13.out).1 (HRR.out _ HB13.out).2
  rw [HOK.out, HPP.out] at K4
  replace p0 := cell_later hb3 p0
  replace p1 := cell_later hb3 p1
  clear hb3 ga gb va3 vb3 hF K2
  go_wp2_with fail
  (try go_at_call 25); refine Calls.mono K4.out ?_
  rintro e w5 ⟨o', vc, vd, hF', rfl, hb5, hT⟩
  obtain rfl : o = o' := by
    have h1 := HF.out
    cases okb
    · exact (h1 : o = none).trans (hF' : o' = none).symm
    · exact FirstP.same h1 hF'
  obtain ⟨vc1, vc2, rfl⟩ := one_len hT.a
  obtain ⟨vd1, vd2, rfl⟩ := one_len hT.b
  obtain ⟨_, gc, -⟩ := row_gown hT.a
  obtain ⟨_, gd, -⟩ := row_gown hT.b
  replace gc := gc.rep
  replace gd := gd.rep
  have HB35 : Hid (Below w3.heap.size w3 w5) := hb5
  have HB15 : Hid (Below w1.heap.size w1 w5) := Below.then HB13.out hb5 HB13.out.size
  have HB05 : Hid (Below w.heap.size w w5) := Below.then HB1.out HB15.out HB1.out.size
  have HALL : Hid (∀ wz, Below w5.heap.size w5 wz → (LRep wz (.slice la ls.length lc) ls ∧ Rep wz (d + 1) (.slice sa (ln (d + 1) (l : List (Pay × Tr d × Tr d))) sc) (l : List (Pay × Tr d × Tr d))) ∧ (GRep (Value.int .i64) wz (.slice vc1 (rowsO ls.length o).1.length vc2) (rowsO ls.length o).1 ∧ GRep (Value.int .i64) wz (.slice vd1 (rowsO ls.length o).2.length vd2) (rowsO ls.length o).2) ∧ wz.cell? ⟨w1.heap.size, 0, none⟩ = some (.slice la ls.length lc) ∧ wz.cell? ⟨w1.heap.size, 1, none⟩ = some (.slice sa (ln (d + 1) (l : List (Pay × Tr d × Tr d))) sc) ∧ Below w.heap.size w wz) :=
    (show ∀ wz, _ from fun wz hb => ⟨HRR.out wz (Below.then HB15.out hb HB15.out.size), ⟨gc.below hb, gd.below hb⟩, cell_later hb (cell_later hb5 p0), cell_later hb (cell_later hb5 p1), Below.then HB05.out hb HB05.out.size⟩)
  have KC : Hid (∀ wz, Below w5.heap.size w5 wz → Calls Try.prog 15 #[.slice vc1 (rowsO ls.length o).1.length vc2, .slice va1 (rowsO ls.length o).1.length va2] wz fun e w' => e = .returned (.bool true) ∧ Below wz.heap.size wz w') := (show ∀ wz, _ from fun wz hb => by
    have := lcInts_any (gc.below hb) (HGAB.out wz (Below.then HB35.out hb HB35.out.size)).1
    rwa [decide_eq_true rfl] at this)
  have KD : Hid (∀ wz, Below w5.heap.size w5 wz → Calls Try.prog 15 #[.slice vd1 (rowsO ls.length o).2.length vd2, .slice vb1 (rowsO ls.length o).2.length vb2] wz fun e w' => e = .returned (.bool true) ∧ Below wz.heap.size wz w') := (show ∀ wz, _ from fun wz hb => by
    have := lcInts_any (gd.below hb) (HGAB.out wz (Below.then HB35.out hb HB35.out.size)).2
    rwa [decide_eq_true rfl] at this)
  have B55 : Hid (Below w5.heap.size w5 w5) := Below.refl _ _
  clear hF' hb5 hT gc gd K4 HGAB HB35 HB15 HB13 HA2 HB3 HB1 HRR p0 p1
  go_wp2_with fail
  (try go_at_call 15); refine Calls.mono (KC.out _ B55.out) ?_
  rintro e wa ⟨rfl, hb_wa⟩
  have B_wa : Hid (Below w5.heap.size w5 wa) := Below.then B55.out hb_wa B55.out.size
  clear hb_wa
  go_wp2_with fail
  (try go_at_call 15); refine Calls.mono (KD.out _ B_wa.out) ?_
  rintro e wb ⟨rfl, hb_wb⟩
  have B_wb : Hid (Below w5.heap.size w5 wb) := Below.then B_wa.out hb_wb B_wa.out.size
  clear hb_wb
  cases o with
  | none =>
    go_wp2_with fail
    (try go_at_call 15); refine Calls.mono (KC.out _ B_wb.out) ?_
    rintro e wc ⟨rfl, hb_wc⟩
    have B_wc : Hid (Below w5.heap.size w5 wc) := Below.then B_wb.out hb_wc B_wb.out.size
    clear hb_wc
    go_wp2_with fail
    (try go_at_call 15); refine Calls.mono (KD.out _ B_wc.out) ?_
    rintro e wd ⟨rfl, hb_wd⟩
    have B_wd : Hid (Below w5.heap.size w5 wd) := Below.then B_wc.out hb_wd B_wc.out.size
    clear hb_wd
    go_wp2
    go_ret
    exact ⟨rfl, (HALL.out _ B_wd.out).2.2.2.2⟩
  | some ki =>
    obtain ⟨k, i⟩ := ki
    have HOB : Hid (okb = true ∧ FirstP P (2 ^ ls.length) (some (k, i))) := by
      have h1 := HF.out
      cases okb
      · exact nomatch (show (some (k, i) : Option (Nat × Nat)) = none from h1)
      · exact ⟨rfl, h1⟩
    have HPR : Hid (progB ls (d + 1) (l : List (Pay × Tr d × Tr d)) = true ∧ ls.length ≤ 4) := by
      have h1 := HOK.out
      rw [HOB.out.1] at h1
      simp only [Bool.and_eq_true_iff] at h1
      have h2 := h1.1
      unfold progB at h2
      simp only [Bool.and_eq_true_iff, decide_eq_true_eq] at h2
      exact ⟨h1.1, by omega⟩
    have HYS : Hid (sameB (trustL ls h) (bitsL k ls.length) (bitsL i ls.length) = true ∧ setV (trustL ls h) (runS ls (d + 1) (l : List (Pay × Tr d × Tr d)) (bitsL k ls.length)).ws ≠ setV (trustL ls h) (runS ls (d + 1) (l : List (Pay × Tr d × Tr d)) (bitsL i ls.length)).ws) := by
      have h1 := HOB.out.2
      rw [← HPP.out] at h1
      exact sway_yes h1
    have KK : Hid (∀ wz, Below w5.heap.size w5 wz → Calls Try.prog 26 #[.agg #[.slice la ls.length lc, .slice sa (ln (d + 1) (l : List (Pay × Tr d × Tr d))) sc], .int .i64 h] wz (KnPost wz (trustL ls h))) := (show ∀ wz, _ from fun wz hb => by
      have := typeTrusts_any h (HALL.out wz hb).1.1 (HALL.out wz hb).1.2
      rwa [if_pos HPR.out.1] at this)
    have HKL : Hid ((trustL ls h).length = ls.length) := (knOf_len ls h).2
    obtain ⟨sx, hsx⟩ : ∃ s, runS ls (d + 1) (l : List (Pay × Tr d × Tr d)) (bitsL k ls.length) = s := ⟨_, rfl⟩
    obtain ⟨sy, hsy⟩ : ∃ s, runS ls (d + 1) (l : List (Pay × Tr d × Tr d)) (bitsL i ls.length) = s := ⟨_, rfl⟩
    rw [hsx, hsy] at HYS
    have HSX : Hid _ := hsx
    have HSY : Hid _ := hsy
    have HFX : Hid (sx.ss.length ≤ 8 ∧ sx.ws.length ≤ 8 ∧ sy.ss.length ≤ 8 ∧ sy.ws.length ≤ 8) := by
      rw [← hsx, ← hsy]
      exact ⟨told_fewL.1, told_fewL.2, told_fewL.1, told_fewL.2⟩
    clear hsx hsy
    have HLK : Hid ((bitsL k ls.length).length = ls.length ∧ (bitsL i ls.length).length = ls.length) := ⟨bitsL_len _ _, bitsL_len _ _⟩
    simp only [rowsO] at HALL
    obtain ⟨-, -, p0, p1, -⟩ := HALL.out _ B_wb.out
    go_wp2_with fail
    (try go_at_call 26); refine Calls.mono (KK.out _ B_wb.out) ?_
    rintro e wk ⟨kv, bs, rfl, hb_wk, hgk, -⟩
    replace hgk := hgk.rep
    obtain ⟨ka, kc, rfl, hkc1, hkc2, hkc⟩ := id hgk
    have B_wk : Hid (Below w5.heap.size w5 wk) := Below.then B_wb.out hb_wk B_wb.out.size
    have HGK : Hid (GRep Value.bool wk (.slice ka (trustL ls h).length kc) (trustL ls h)) := hgk
    clear hb_wk p0 p1 hgk
    have KRx : Hid _ := runOf_any (HALL.out _ B_wk.out).1.1 (HALL.out _ B_wk.out).1.2 (HALL.out _ B_wk.out).2.1.1
    obtain ⟨-, -, p0, p1, -⟩ := HALL.out _ B_wk.out
    go_wp2_with fail
    (try go_at_call 16); refine Calls.mono KRx.out ?_
    rintro e wrx ⟨xxa, xxb, xxc, rfl, hb_wrx, rx⟩
    rw [HSX.out] at rx
    obtain ⟨nx, mx, rfl⟩ := one_len rx.n
    obtain ⟨nx', mx', rfl⟩ := one_len rx.ws
    obtain ⟨nx'', mx'', rfl⟩ := one_len rx.ss
    have B_wrx : Hid (Below w5.heap.size w5 wrx) := Below.then B_wk.out hb_wrx B_wk.out.size
    replace p0 := cell_later hb_wrx p0
    replace p1 := cell_later hb_wrx p1
    have HB_wrx : Hid _ := hb_wrx
    obtain ⟨w8, hw8⟩ : ∃ W, wrx.alloc (.cells #[.slice nx sx.n.length mx, .slice nx' sx.ws.length mx', .slice nx'' sx.ss.length mx''] 36) = W := ⟨_, rfl⟩
    have A8 : Below wrx.heap.size wrx w8 := by rw [← hw8]; exact (Below.refl _ _).alloc (Nat.le_refl _) _
    have e0 : w8.cell? ⟨wrx.heap.size, 0, none⟩ = some (.slice nx sx.n.length mx) := by rw [← hw8]; simp
    have e1 : w8.cell? ⟨wrx.heap.size, 1, none⟩ = some (.slice nx' sx.ws.length mx') := by rw [← hw8]; simp
    have e2 : w8.cell? ⟨wrx.heap.size, 2, none⟩ = some (.slice nx'' sx.ss.length mx'') := by rw [← hw8]; simp
    have HRX : Hid (∀ wz, Below w8.heap.size w8 wz → GRep (Value.int .i64) wz (.slice nx sx.n.length mx) sx.n ∧ LRep wz (.slice nx' sx.ws.length mx') sx.ws ∧ LRep wz (.slice nx'' sx.ss.length mx'') sx.ss) := (show ∀ wz, _ from fun wz hb => by
      obtain ⟨g1, g2, g3⟩ := rx.repsL
      exact ⟨(g1.below A8).below hb, (g2.below A8).below hb, (g3.below A8).below hb⟩)
    have HW8 : Hid _ := hw8
    have B_w8 : Hid (Below w5.heap.size w5 w8) := Below.then B_wrx.out A8 B_wrx.out.size
    have HA8 : Hid _ := A8
    clear hw8 A8 rx hb_wrx
    have HE : Hid (w8.cell? ⟨wrx.heap.size, 0, none⟩ = some (.slice nx sx.n.length mx) ∧ w8.cell? ⟨wrx.heap.size, 1, none⟩ = some (.slice nx' sx.ws.length mx') ∧ w8.cell? ⟨wrx.heap.size, 2, none⟩ = some (.slice nx'' sx.ss.length mx'')) := ⟨e0, e1, e2⟩
    clear e0 e1 e2
    go_wp2_with fail
    rw [HW8.out]
    clear p0 p1
    have KRy : Hid _ := runOf_any (HALL.out _ B_w8.out).1.1 (HALL.out _ B_w8.out).1.2 (HALL.out _ B_w8.out).2.1.2
    obtain ⟨-, -, p0, p1, -⟩ := HALL.out _ B_w8.out
    (try go_at_call 16); refine Calls.mono KRy.out ?_
    rintro e wry ⟨xya, xyb, xyc, rfl, hb_wry, ry⟩
    rw [HSY.out] at ry
    obtain ⟨ny, my, rfl⟩ := one_len ry.n
    obtain ⟨ny', my', rfl⟩ := one_len ry.ws
    obtain ⟨ny'', my'', rfl⟩ := one_len ry.ss
    have B_wry : Hid (Below w5.heap.size w5 wry) := Below.then B_w8.out hb_wry B_w8.out.size
    replace p0 := cell_later hb_wry p0
    replace p1 := cell_later hb_wry p1
    have HB_wry : Hid _ := hb_wry
    have e0 := cell_later hb_wry HE.out.1
    have e1 := cell_later hb_wry HE.out.2.1
    have e2 := cell_later hb_wry HE.out.2.2
    obtain ⟨wF, hwF⟩ : ∃ W, wry.alloc (.cells #[.slice ny sy.n.length my, .slice ny' sy.ws.length my', .slice ny'' sy.ss.length my''] 36) = W := ⟨_, rfl⟩
    have AF : Below wry.heap.size wry wF := by rw [← hwF]; exact (Below.refl _ _).alloc (Nat.le_refl _) _
    have g0 : wF.cell? ⟨wry.heap.size, 0, none⟩ = some (.slice ny sy.n.length my) := by rw [← hwF]; simp
    have g1 : wF.cell? ⟨wry.heap.size, 1, none⟩ = some (.slice ny' sy.ws.length my') := by rw [← hwF]; simp
    have g2 : wF.cell? ⟨wry.heap.size, 2, none⟩ = some (.slice ny'' sy.ss.length my'') := by rw [← hwF]; simp
    have HRY : Hid (∀ wz, Below wF.heap.size wF wz → GRep (Value.int .i64) wz (.slice ny sy.n.length my) sy.n ∧ LRep wz (.slice ny' sy.ws.length my') sy.ws ∧ LRep wz (.slice ny'' sy.ss.length my'') sy.ss) := (show ∀ wz, _ from fun wz hb => by
      obtain ⟨q1, q2, q3⟩ := ry.repsL
      exact ⟨(q1.below AF).below hb, (q2.below AF).below hb, (q3.below AF).below hb⟩)
    have B8F : Hid (Below w8.heap.size w8 wF) := Below.then hb_wry AF hb_wry.size
    have HWF : Hid _ := hwF
    have B_wF : Hid (Below w5.heap.size w5 wF) := Below.then B_w8.out B8F.out B_w8.out.size
    go_wp2_with fail
    try rw [HWF.out]
    replace p0 := cell_later AF p0
    replace p1 := cell_later AF p1
    replace e0 := cell_later AF e0
    replace e1 := cell_later AF e1
    replace e2 := cell_later AF e2
    clear hwF AF ry hb_wry HWF
    have BKF : Hid (Below wk.heap.size wk wF) := Below.then (Below.then HB_wrx.out HA8.out HB_wrx.out.size) B8F.out (Below.then HB_wrx.out HA8.out HB_wrx.out.size).size
    refine wp_region_held (S := (fun wz => Below wF.heap.size wF wz)) (by kernel_rfl) ?_
    change wpAnyH _ _ _ _ _ _ _ _ (World.drew _)
    have hHeld := (Below.refl wF.heap.size wF).drew
    refine' wpAnyH_take (i := 0) (v := _) rfl (by kernel_rfl) (by kernel_rfl) (by kernel_rfl) (fun _ _ _ h => h) (Or.inl ⟨by rfl, ?hy19⟩) hHeld ?hn19
    case hy19 => (intro wz hSw; (try dsimp only at hSw); go_simp; first | done | with_reducible rfl)
    try simp only [nrm, Act.put]
    refine' wpAnyH_take (i := 1) (v := _) rfl (by kernel_rfl) (by kernel_rfl) (by kernel_rfl) (fun _ _ _ h => h) (Or.inl ⟨by rfl, ?hy20⟩) hHeld ?hn20
    case hy20 => (intro wz hSw; (try dsimp only at hSw); go_simp; first | done | with_reducible rfl)
    try simp only [nrm, Act.put]
    refine' wpAnyH_take (i := 2) (v := _) rfl (by kernel_rfl) (by kernel_rfl) (by kernel_rfl) (fun _ _ _ h => h) (Or.inl ⟨by rfl, ?hy21⟩) hHeld ?hn21
    case hy21 => (intro wz hSw; (try dsimp only at hSw); go_simp; first | done | with_reducible rfl)
    try simp only [nrm, Act.put]
    refine wpAnyH_ready (rs := [3]) (by kernel_rfl) (by simp) ?_
    refine AllReadyH.cons rfl (fun K hK => ?_) AllReadyH.nil
    go_simp
    refine Calls.mono (lcSameOf_true (HALL.out _ (Below.then B_wF.out hHeld B_wF.out.size)).2.1.1 (HALL.out _ (Below.then B_wF.out hHeld B_wF.out.size)).2.1.2 (HGK.out.below (Below.then BKF.out hHeld BKF.out.size)) (by rw [HLK.out.1, HLK.out.2]) (by rw [HLK.out.1]; exact HKL.out) (fun q h1 h2 h3 hq => sameB_get HYS.out.1 q h1 h2 h3 hq)) ?_; rintro e' z2 ⟨rfl, hbx⟩; have hK2 := Below.then hHeld hbx hHeld.size
    refine hK.out _ _ (hK2) (fun hHeld => ?_)
    clear hK K
    refine' wpAnyH_take (i := 4) (v := _) rfl (by kernel_rfl) (by kernel_rfl) (by kernel_rfl) (fun _ _ _ h => h) (Or.inl ⟨by rfl, ?hy22⟩) hHeld ?hn22
    case hy22 => (intro wz hSw; (try dsimp only at hSw); go_simp; first | done | with_reducible rfl)
    try simp only [nrm, Act.put]
    refine' wpAnyH_take (i := 5) (v := (.agg #[.slice nx sx.n.length mx, .slice nx' sx.ws.length mx', .slice nx'' sx.ss.length mx''])) rfl (by kernel_rfl) (by kernel_rfl) (by kernel_rfl) (fun _ _ _ h => h) (Or.inl ⟨by rfl, ?hy23⟩) hHeld ?hn23
    case hy23 => (intro wz hSw; have k0 := cell_later hSw e0; have k1 := cell_later hSw e1; have k2 := cell_later hSw e2; go_simp)
    try simp only [nrm, Act.put]
    refine' wpAnyH_take (i := 6) (v := _) rfl (by kernel_rfl) (by kernel_rfl) (by kernel_rfl) (fun _ _ _ h => h) (Or.inl ⟨by rfl, ?hy24⟩) hHeld ?hn24
    case hy24 => (intro wz hSw; (try dsimp only at hSw); go_simp; first | done | with_reducible rfl)
    try simp only [nrm, Act.put]
    refine' wpAnyH_take (i := 8) (v := (.agg #[.slice ny sy.n.length my, .slice ny' sy.ws.length my', .slice ny'' sy.ss.length my''])) rfl (by kernel_rfl) (by kernel_rfl) (by kernel_rfl) (fun _ _ _ h => h) (Or.inl ⟨by rfl, ?hy25⟩) hHeld ?hn25
    case hy25 => (intro wz hSw; have k0 := cell_later hSw g0; have k1 := cell_later hSw g1; have k2 := cell_later hSw g2; go_simp)
    try simp only [nrm, Act.put]
    refine' wpAnyH_take (i := 9) (v := _) rfl (by kernel_rfl) (by kernel_rfl) (by kernel_rfl) (fun _ _ _ h => h) (Or.inl ⟨by rfl, ?hy26⟩) hHeld ?hn26
    case hy26 => (intro wz hSw; (try dsimp only at hSw); go_simp; first | done | with_reducible rfl)
    try simp only [nrm, Act.put]
    refine wpAnyH_ready (rs := [7]) (by kernel_rfl) (by simp) ?_
    refine AllReadyH.cons rfl (fun K hK => ?_) AllReadyH.nil
    go_simp
    refine Calls.mono (runSets_any (HRX.out _ (Below.then B8F.out hHeld B8F.out.size)).2.1 (HGK.out.below (Below.then BKF.out hHeld BKF.out.size)) (by have := HFX.out.2.1; omega)) ?_; rintro e' z3 ⟨t1, _, rfl, hbx, o1, -⟩; have q1 := o1.rep; clear o1; have hK2 := Below.then hHeld hbx hHeld.size
    refine hK.out _ _ (hK2) (fun hHeld => ?_)
    clear hK K
    refine wpAnyH_ready (rs := [10]) (by kernel_rfl) (by simp) ?_
    refine AllReadyH.cons rfl (fun K hK => ?_) AllReadyH.nil
    go_simp
    refine Calls.mono (runSets_any (HRY.out _ hHeld).2.1 (HGK.out.below (Below.then BKF.out hHeld BKF.out.size)) (by have := HFX.out.2.2.2; omega)) ?_; rintro e' z4 ⟨t2, _, rfl, hbx, o2, -⟩; have q2 := o2.rep; replace q1 := q1.below hbx; clear o2; have hK2 := Below.then hHeld hbx hHeld.size
    refine hK.out _ _ (hK2) (fun hHeld => ?_)
    clear hK K
    refine wpAnyH_ready (rs := [11]) (by kernel_rfl) (by simp) ?_
    refine AllReadyH.cons rfl (fun K hK => ?_) AllReadyH.nil
    go_simp
    have KI := lcWrites_any q1 q2; rw [decide_eq_false HYS.out.2] at KI; refine Calls.mono KI ?_; rintro e' z5 ⟨rfl, hbx⟩; clear KI q1 q2; have hK2 := Below.then hHeld hbx hHeld.size
    refine hK.out _ _ (hK2) (fun hHeld => ?_)
    clear hK K
    refine' wpAnyH_take (i := 12) (v := _) rfl (by kernel_rfl) (by kernel_rfl) (by kernel_rfl) (fun _ _ _ h => h) (Or.inl ⟨by rfl, ?hy27⟩) hHeld ?hn27
    case hy27 => (intro wz hSw; (try dsimp only at hSw); go_simp; first | done | with_reducible rfl)
    try simp only [nrm, Act.put]
    refine' wpAnyH_take (i := 13) (v := _) rfl (by kernel_rfl) (by kernel_rfl) (by kernel_rfl) (fun _ _ _ h => h) (Or.inl ⟨by rfl, ?hy28⟩) hHeld ?hn28
    case hy28 => (intro wz hSw; (try dsimp only at hSw); go_simp; first | done | with_reducible rfl)
    try simp only [nrm, Act.put]
    refine' wpAnyH_take (i := 14) (v := _) rfl (by kernel_rfl) (by kernel_rfl) (by kernel_rfl) (fun _ _ _ h => h) (Or.inl ⟨by rfl, ?hy29⟩) hHeld ?hn29
    case hy29 => (intro wz hSw; (try dsimp only at hSw); go_simp; first | done | with_reducible rfl)
    try simp only [nrm, Act.put]
    refine' wpAnyH_take (i := 15) (v := _) rfl (by kernel_rfl) (by kernel_rfl) (by kernel_rfl) (fun _ _ _ h => h) (Or.inl ⟨by rfl, ?hy30⟩) hHeld ?hn30
    case hy30 => (intro wz hSw; (try dsimp only at hSw); go_simp; first | done | with_reducible rfl)
    try simp only [nrm, Act.put]
    refine wpAnyH_ready (rs := [16]) (by kernel_rfl) (by simp) ?_
    refine AllReadyH.cons rfl (fun K hK => ?_) AllReadyH.nil
    go_simp
    refine Calls.mono (lcBits_any (HALL.out _ (Below.then B_wF.out hHeld B_wF.out.size)).2.1.1 (bits01 (Nat.lt_of_lt_of_le (Nat.lt_trans HOB.out.2.2.1 HOB.out.2.1) (two_pow16 HPR.out.2)) HPR.out.2)) ?_; rintro e' z6 ⟨rfl, hbx⟩; have hK2 := Below.then hHeld hbx hHeld.size
    refine hK.out _ _ (hK2) (fun hHeld => ?_)
    clear hK K
    refine' wpAnyH_take (i := 17) (v := _) rfl (by kernel_rfl) (by kernel_rfl) (by kernel_rfl) (fun _ _ _ h => h) (Or.inl ⟨by rfl, ?hy31⟩) hHeld ?hn31
    case hy31 => (intro wz hSw; (try dsimp only at hSw); go_simp; first | done | with_reducible rfl)
    try simp only [nrm, Act.put]
    refine' wpAnyH_take (i := 18) (v := _) rfl (by kernel_rfl) (by kernel_rfl) (by kernel_rfl) (fun _ _ _ h => h) (Or.inl ⟨by rfl, ?hy32⟩) hHeld ?hn32
    case hy32 => (intro wz hSw; (try dsimp only at hSw); go_simp; first | done | with_reducible rfl)
    try simp only [nrm, Act.put]
    refine' wpAnyH_take (i := 19) (v := _) rfl (by kernel_rfl) (by kernel_rfl) (by kernel_rfl) (fun _ _ _ h => h) (Or.inl ⟨by rfl, ?hy33⟩) hHeld ?hn33
    case hy33 => (intro wz hSw; (try dsimp only at hSw); go_simp; first | done | with_reducible rfl)
    try simp only [nrm, Act.put]
    refine wpAnyH_ready (rs := [20]) (by kernel_rfl) (by simp) ?_
    refine AllReadyH.cons rfl (fun K hK => ?_) AllReadyH.nil
    go_simp
    refine Calls.mono (lcBits_any (HALL.out _ (Below.then B_wF.out hHeld B_wF.out.size)).2.1.2 (bits01 (Nat.lt_of_lt_of_le HOB.out.2.1 (two_pow16 HPR.out.2)) HPR.out.2)) ?_; rintro e' z6 ⟨rfl, hbx⟩; have hK2 := Below.then hHeld hbx hHeld.size
    refine hK.out _ _ (hK2) (fun hHeld => ?_)
    clear hK K
    refine' wpAnyH_take (i := 21) (v := _) rfl (by kernel_rfl) (by kernel_rfl) (by kernel_rfl) (fun _ _ _ h => h) (Or.inl ⟨by rfl, ?hy34⟩) hHeld ?hn34
    case hy34 => (intro wz hSw; (try dsimp only at hSw); go_simp; first | done | with_reducible rfl)
    try simp only [nrm, Act.put]
    refine' wpAnyH_take (i := 22) (v := _) rfl (by kernel_rfl) (by kernel_rfl) (by kernel_rfl) (fun _ _ _ h => h) (Or.inl ⟨by rfl, ?hy35⟩) hHeld ?hn35
    case hy35 => (intro wz hSw; (try dsimp only at hSw); go_simp; first | done | with_reducible rfl)
    try simp only [nrm, Act.put]
    refine wpAnyH_done (by kernel_rfl) ?_ _
    have HBq : Hid (Below w5.heap.size w5 _) := (Below.then B_wF.out hHeld B_wF.out.size)
    clear hHeld
    go_wp2
    go_ret
    exact ⟨rfl, (HALL.out _ HBq.out).2.2.2.2⟩

#print axioms fnSwayOf_walk
end Go.Proofs.Ytlhfbhidgabgbaa
