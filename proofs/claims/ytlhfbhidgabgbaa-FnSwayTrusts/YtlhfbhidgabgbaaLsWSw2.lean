/- Only who trusts something, and not all, is deceived: the law, walked. -/
import Derived.Test.YtlhfbhidgabgbaaLsLem
import Derived.Test.YtlhfbhidgabgbaaLsLef
import Derived.Test.YtlhfbhidgabgbaaLsLcx
namespace Go.Proofs.Ytlhfbhidgabgbaa
open Go.RowKit
set_option linter.unusedSimpArgs false
set_option linter.unusedVariables false
attribute [local go_sem ↓] Go.wp_at_zero Go.wp_at_succ
attribute [local go_sem] World.cell?_alloc_some

theorem all_takeT {ks : List Bool} {j : Nat} (hj : j < ks.length) : (ks.take (j + 1)).all id = ((ks.take j).all id && ks[j]) := by
  rw [List.take_succ_eq_append_getElem hj, List.all_append]; simp
theorem any_takeT {ks : List Bool} {j : Nat} (hj : j < ks.length) : (ks.take (j + 1)).any id = ((ks.take j).any id || ks[j]) := by
  rw [List.take_succ_eq_append_getElem hj, List.any_append]; simp

set_option maxHeartbeats 16000000 in
set_option maxRecDepth 20000 in
theorem fnSwayTrusts_walk (a0 : Option Addr) (len0 cap0 : Nat) (z0 : List Int) (w : World) (h0 : IsRow .u8 w a0 len0 cap0 z0) :
    Calls Try.prog 8 #[.slice a0 len0 cap0] w fun e w' => e = .returned (.bool true) ∧ Below w.heap.size w w' := by
  by_cases hl0 : (1048576 : Int) < (len0 : Int)
  · go_enter Try.func8, Try.ntmps8
    go_wp2
    go_ret
    exact ⟨rfl, Below.refl _ _⟩
  have C1 : Hid _ := drawSwayOf_any w a0 len0 cap0 z0 h0
  clear h0
  go_enter Try.func8, Try.ntmps8
  go_wp2_with fail
  go_at_call 23; refine Calls.mono C1.out ?_
  rintro e w1 ⟨la, sa, lc, sc, ls, d, l, h, rfl, hL, hR, ll, cn, hb1⟩
  have HB1 : Hid (Below w.heap.size w w1) := hb1
  have A2 : Below w1.heap.size w1 (w1.alloc (.cells #[.slice la ls.length lc, .slice sa (ln (d + 1) (l : List (Pay × Tr d × Tr d))) sc] 26)) := (Below.refl _ _).alloc (Nat.le_refl _) _
  obtain ⟨w2, hw2⟩ : ∃ W, w1.alloc (.cells #[.slice la ls.length lc, .slice sa (ln (d + 1) (l : List (Pay × Tr d × Tr d))) sc] 26) = W := ⟨_, rfl⟩
  have p0 : w2.cell? ⟨w1.heap.size, 0, none⟩ = some (.slice la ls.length lc) := by rw [← hw2]; simp
  have p1 : w2.cell? ⟨w1.heap.size, 1, none⟩ = some (.slice sa (ln (d + 1) (l : List (Pay × Tr d × Tr d))) sc) := by rw [← hw2]; simp
  rw [hw2] at A2
  have HW2 : Hid _ := hw2
  have K2 : Hid _ := sSwayOf_any h (hL.below A2) (hR.below A2) (by omega)
  have HRR : Hid (∀ wz, Below w1.heap.size w1 wz → LRep wz (.slice la ls.length lc) ls ∧ Rep wz (d + 1) (.slice sa (ln (d + 1) (l : List (Pay × Tr d × Tr d))) sc) (l : List (Pay × Tr d × Tr d))) := (show ∀ wz, _ from fun wz hb => ⟨hL.below hb, hR.below hb⟩)
  have HA2 : Hid (Below w1.heap.size w1 w2) := A2
  obtain ⟨okb, hok⟩ : ∃ x, (progB ls (d + 1) (l : List (Pay × Tr d × Tr d)) && vIn 3 h) = x := ⟨_, rfl⟩
  obtain ⟨P, hP⟩ : ∃ x, (swayP ls (d + 1) (l : List (Pay × Tr d × Tr d)) (trustL ls h)) = x := ⟨_, rfl⟩
  rw [hok, hP] at K2
  have HOK : Hid _ := hok
  have HPP : Hid _ := hP
  have HLL : Hid (1 ≤ ls.length ∧ ls.length ≤ 8) := ll
  have HCN : Hid (cnt (d + 1) (l : List (Pay × Tr d × Tr d)) ≤ 400) := cn
  clear hok hP hw2 A2 hL hR hb1 C1 ll cn
  go_wp2_with fail
  rw [HW2.out]
  clear HW2
  (try go_at_call 24); refine Calls.mono K2.out ?_
  rintro e w3 ⟨o, va, vb, hF, rfl, hb3, ga, gb⟩
  obtain ⟨va1, va2, va3⟩ := id ga
  obtain ⟨vb1, vb2, vb3⟩ := id gb
  obtain rfl := va3.1
  obtain rfl := vb3.1
  have HF : Hid _ := hF
  have HB3 : Hid (Below w2.heap.size w2 w3) := hb3
  have HGAB : Hid (∀ wz, Below w3.heap.size w3 wz → GRep (Value.int .i64) wz (.slice va1 (rowsO ls.length o).1.length va2) (rowsO ls.length o).1 ∧ GRep (Value.int .i64) wz (.slice vb1 (rowsO ls.length o).2.length vb2) (rowsO ls.length o).2) := (show ∀ wz, _ from fun wz hb => ⟨ga.below hb, gb.below hb⟩)
  have HB13 : Hid (Below w1.heap.size w1 w3) := Below.then HA2.out hb3 HA2.out.size
  have K4 : Hid _ := swayOf_any h (HRR.out _ HB13.out).1 (HRR.out _ HB13.out).2
  rw [HOK.out, HPP.out] at K4
  replace p0 := cell_later hb3 p0
  replace p1 := cell_later hb3 p1
  clear hb3 ga gb va3 vb3 hF K2
  go_wp2_with fail
  (try go_at_call 25); refine Calls.mono K4.out ?_
  rintro e w5 ⟨o', vc, vd, hF', rfl, hb5, hT⟩
  obtain rfl : o = o' := by
    have h1 := HF.out
    cases okb
    · exact (h1 : o = none).trans (hF' : o' = none).symm
    · exact FirstP.same h1 hF'
  obtain ⟨vc1, vc2, rfl⟩ := one_len hT.a
  obtain ⟨vd1, vd2, rfl⟩ := one_len hT.b
  obtain ⟨_, gc, -⟩ := row_gown hT.a
  obtain ⟨_, gd, -⟩ := row_gown hT.b
  replace gc := gc.rep
  replace gd := gd.rep
  have HB35 : Hid (Below w3.heap.size w3 w5) := hb5
  have HB15 : Hid (Below w1.heap.size w1 w5) := Below.then HB13.out hb5 HB13.out.size
  have HB05 : Hid (Below w.heap.size w w5) := Below.then HB1.out HB15.out HB1.out.size
  have HALL : Hid (∀ wz, Below w5.heap.size w5 wz → (LRep wz (.slice la ls.length lc) ls ∧ Rep wz (d + 1) (.slice sa (ln (d + 1) (l : List (Pay × Tr d × Tr d))) sc) (l : List (Pay × Tr d × Tr d))) ∧ (GRep (Value.int .i64) wz (.slice vc1 (rowsO ls.length o).1.length vc2) (rowsO ls.length o).1 ∧ GRep (Value.int .i64) wz (.slice vd1 (rowsO ls.length o).2.length vd2) (rowsO ls.length o).2) ∧ wz.cell? ⟨w1.heap.size, 0, none⟩ = some (.slice la ls.length lc) ∧ wz.cell? ⟨w1.heap.size, 1, none⟩ = some (.slice sa (ln (d + 1) (l : List (Pay × Tr d × Tr d))) sc) ∧ Below w.heap.size w wz) :=
    (show ∀ wz, _ from fun wz hb => ⟨HRR.out wz (Below.then HB15.out hb HB15.out.size), ⟨gc.below hb, gd.below hb⟩, cell_later hb (cell_later hb5 p0), cell_later hb (cell_later hb5 p1), Below.then HB05.out hb HB05.out.size⟩)
  have KC : Hid (∀ wz, Below w5.heap.size w5 wz → Calls Try.prog 15 #[.slice vc1 (rowsO ls.length o).1.length vc2, .slice va1 (rowsO ls.length o).1.length va2] wz fun e w' => e = .returned (.bool true) ∧ Below wz.heap.size wz w') := (show ∀ wz, _ from fun wz hb => by
    have := lcInts_any (gc.below hb) (HGAB.out wz (Below.then HB35.out hb HB35.out.size)).1
    rwa [decide_eq_true rfl] at this)
  have KD : Hid (∀ wz, Below w5.heap.size w5 wz → Calls Try.prog 15 #[.slice vd1 (rowsO ls.length o).2.length vd2, .slice vb1 (rowsO ls.length o).2.length vb2] wz fun e w' => e = .returned (.bool true) ∧ Below wz.heap.size wz w') := (show ∀ wz, _ from fun wz hb => by
    have := lcInts_any (gd.below hb) (HGAB.out wz (Below.then HB35.out hb HB35.out.size)).2
    rwa [decide_eq_true rfl] at this)
  have B55 : Hid (Below w5.heap.size w5 w5) := Below.refl _ _
  clear hF' hb5 hT gc gd K4 HGAB HB35 HB15 HB13 HA2 HB3 HB1 HRR p0 p1
  go_wp2_with fail
  (try go_at_call 15); refine Calls.mono (KC.out _ B55.out) ?_
  rintro e wa ⟨rfl, hb_wa⟩
  have B_wa : Hid (Below w5.heap.size w5 wa) := Below.then B55.out hb_wa B55.out.size
  clear hb_wa
  go_wp2_with fail
  (try go_at_call 15); refine Calls.mono (KD.out _ B_wa.out) ?_
  rintro e wb ⟨rfl, hb_wb⟩
  have B_wb : Hid (Below w5.heap.size w5 wb) := Below.then B_wa.out hb_wb B_wa.out.size
  clear hb_wb
  cases o with
  | none =>
    go_wp2_with fail
    (try go_at_call 15); refine Calls.mono (KC.out _ B_wb.out) ?_
    rintro e wc ⟨rfl, hb_wc⟩
    have B_wc : Hid (Below w5.heap.size w5 wc) := Below.then B_wb.out hb_wc B_wb.out.size
    clear hb_wc
    go_wp2_with fail
    (try go_at_call 15); refine Calls.mono (KD.out _ B_wc.out) ?_
    rintro e wd ⟨rfl, hb_wd⟩
    have B_wd : Hid (Below w5.heap.size w5 wd) := Below.then B_wc.out hb_wd B_wc.out.size
    clear hb_wd
    go_wp2
    go_ret
    exact ⟨rfl, (HALL.out _ B_wd.out).2.2.2.2⟩
  | some ki =>
    obtain ⟨k, i⟩ := ki
    have HOB : Hid (okb = true ∧ FirstP P (2 ^ ls.length) (some (k, i))) := by
      have h1 := HF.out
      cases okb
      · exact nomatch (show (some (k, i) : Option (Nat × Nat)) = none from h1)
      · exact ⟨rfl, h1⟩
    have HPR : Hid (progB ls (d + 1) (l : List (Pay × Tr d × Tr d)) = true ∧ ls.length ≤ 4) := by
      have h1 := HOK.out
      rw [HOB.out.1] at h1
      simp only [Bool.and_eq_true_iff] at h1
      have h2 := h1.1
      unfold progB at h2
      simp only [Bool.and_eq_true_iff, decide_eq_true_eq] at h2
      exact ⟨h1.1, by omega⟩
    have HYS : Hid (sameB (trustL ls h) (bitsL k ls.length) (bitsL i ls.length) = true ∧ setV (trustL ls h) (runS ls (d + 1) (l : List (Pay × Tr d × Tr d)) (bitsL k ls.length)).ws ≠ setV (trustL ls h) (runS ls (d + 1) (l : List (Pay × Tr d × Tr d)) (bitsL i ls.length)).ws) := by
      have h1 := HOB.out.2
      rw [← HPP.out] at h1
      exact sway_yes h1
    have KK : Hid (∀ wz, Below w5.heap.size w5 wz → Calls Try.prog 26 #[.agg #[.slice la ls.length lc, .slice sa (ln (d + 1) (l : List (Pay × Tr d × Tr d))) sc], .int .i64 h] wz (KnPost wz (trustL ls h))) := (show ∀ wz, _ from fun wz hb => by
      have := typeTrusts_any h (HALL.out wz hb).1.1 (HALL.out wz hb).1.2
      rwa [if_pos HPR.out.1] at this)
    have HKL : Hid ((trustL ls h).length = ls.length) := (knOf_len ls h).2
    obtain ⟨-, -, p0, p1, -⟩ := HALL.out _ B_wb.out
    go_wp2_with fail
    (try go_at_call 26); refine Calls.mono (KK.out _ B_wb.out) ?_
    rintro e wc ⟨kv, bs, rfl, hb_wc, hgk, -⟩
    replace hgk := hgk.rep
    obtain ⟨ka, kc, rfl, hkc1, hkc2, hkc⟩ := id hgk
    have B_wc : Hid (Below w5.heap.size w5 wc) := Below.then B_wb.out hb_wc B_wb.out.size
    have HGK : Hid (GRep Value.bool wc (.slice ka (trustL ls h).length kc) (trustL ls h)) := hgk
    clear hb_wc p0 p1 hgk
    have hk4 : ((trustL ls h).length : Int) ≤ 4 := by have h1 := HKL.out; have h2 := HPR.out.2; omega
    go_wp2_with fail
    go_loopw [11, 12, 14] (fun so al q wr => ∃ (j : Nat), j ≤ (trustL ls h).length ∧ q = .int .i64 j ∧ so = .bool (((trustL ls h).take j).any id) ∧ al = .bool ((((trustL ls h)).take j).all id) ∧ Below wc.heap.size wc wr) (fun _ _ q _ => (trustL ls h).length - (intOf q).toNat)
    case atStart => exact ⟨0, by omega, rfl, rfl, rfl, Below.refl _ _⟩
    case round =>
      obtain ⟨j, hj, rfl, rfl, rfl, hbr⟩ := hrel
      have HBR : Hid (Below wc.heap.size wc wr) := hbr
      by_cases hlt : j < (trustL ls h).length
      · obtain ⟨b, off, rfl, c0⟩ := hkc j hlt
        have hat := all_takeT hlt
        have hnt := any_takeT hlt
        obtain ⟨x, hx⟩ : ∃ x, (trustL ls h)[j] = x := ⟨_, rfl⟩
        obtain ⟨y, hy⟩ : ∃ y, (((trustL ls h)).take j).all id = y := ⟨_, rfl⟩
        obtain ⟨z, hz⟩ : ∃ z, ((trustL ls h).take j).any id = z := ⟨_, rfl⟩
        rw [hx] at c0
        rw [hx, hy] at hat
        rw [hx, hz] at hnt
        rw [hy, hz]
        have HAT : Hid _ := hat
        have HNT : Hid _ := hnt
        replace c0 := cell_later hbr c0
        have i1' : (j : Int) < ((trustL ls h).length : Int) := by omega
        clear hx hy hz hat hnt hbr hkc
        cases y <;> cases z
        all_goals
          go_wp2
          exact ⟨⟨j + 1, by omega, by simp, by rw [HNT.out]; simp, by rw [HAT.out]; simp, HBR.out⟩, by simp [intOf]; omega⟩
      · have hje : j = (trustL ls h).length := by omega
        subst hje
        have HAF : Hid ((((trustL ls h)).take (trustL ls h).length).all id = false) := by
          show (((trustL ls h)).take (trustL ls h).length).all id = false
          rw [List.take_length]
          exact same_not_all HPR.out.2 HOB.out.2.1 HOB.out.2.2.1 HKL.out HYS.out.1
        have HSF : Hid (((trustL ls h).take (trustL ls h).length).any id = true) := by
          show ((trustL ls h).take (trustL ls h).length).any id = true
          rw [List.take_length]
          cases e : (trustL ls h).any id with
          | true => rfl
          | false =>
            refine (HYS.out.2 ?_).elim
            have hw : ∀ ws : List (Int × Int), ∀ x ∈ ws, setB (trustL ls h) x.1 = true → (trustL ls h).any id = true := fun ws x _ hs => by
              unfold setB at hs
              first
                | (simp only [Bool.and_eq_true_iff] at hs
                   have hg := hs.2
                   rw [List.getD_eq_getElem?_getD] at hg
                   cases hq : (trustL ls h)[x.1.toNat]? with
                   | none => rw [hq] at hg; cases hg
                   | some v =>
                     rw [hq] at hg
                     have hm := List.mem_of_getElem? hq
                     exact List.any_eq_true.2 ⟨v, hm, hg⟩)
                | skip
            rw [setV_none e _ (hw _), setV_none e _ (hw _)]
        rw [HAF.out, HSF.out]
        have B_wr : Hid (Below w5.heap.size w5 wr) := Below.then B_wc.out HBR.out B_wc.out.size
        clear hbr hkc
        go_wp2
        go_ret
        exact ⟨rfl, (HALL.out _ B_wr.out).2.2.2.2⟩

#print axioms fnSwayTrusts_walk
end Go.Proofs.Ytlhfbhidgabgbaa
