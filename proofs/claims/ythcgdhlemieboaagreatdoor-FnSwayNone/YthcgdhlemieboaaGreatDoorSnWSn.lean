/- A fine program deceives nobody: the law, walked. -/
import Derived.Test.YthcgdhlemieboaaGreatDoorSnTks
import Derived.Test.YthcgdhlemieboaaGreatDoorSnLef
import Derived.Test.YthcgdhlemieboaaGreatDoorSnLcx
import Derived.Test.YthcgdhlemieboaaGreatDoorSnTmb
namespace Go.Proofs.YthcgdhlemieboaaGreatDoor
open Go.RowKit
set_option linter.unusedSimpArgs false
set_option linter.unusedVariables false
attribute [local go_sem ↓] Go.wp_at_zero Go.wp_at_succ
attribute [local go_sem] World.cell?_alloc_some

set_option maxHeartbeats 16000000 in
set_option maxRecDepth 20000 in
theorem fnSwayNone_walk (a0 : Option Addr) (len0 cap0 : Nat) (z0 : List Int) (w : World) (s0 s1 : Addr) (hg0 : w.cell? ⟨0, 0, none⟩ = some (.iface 166 (.pointer (some s0)))) (hg1 : w.cell? ⟨1, 0, none⟩ = some (.iface 166 (.pointer (some s1)))) (h0 : IsRow .u8 w a0 len0 cap0 z0) :
    Calls Tryz.prog 4 #[.slice a0 len0 cap0] w fun e w' => e = .returned (.bool true) ∧ Below w.heap.size w w' := by
  by_cases hl0 : (1048576 : Int) < (len0 : Int)
  · go_enter Tryz.func4, Tryz.ntmps4
    go_wp2
    go_ret
    exact ⟨rfl, Below.refl _ _⟩
  have C1 : Hid _ := drawSwayOf_any w a0 len0 cap0 z0 h0
  have HG0 : Hid _ := hg0
  have HG1 : Hid _ := hg1
  clear h0 hg0 hg1
  go_enter Tryz.func4, Tryz.ntmps4
  go_wp2_with fail
  go_at_call 10; refine Calls.mono C1.out ?_
  rintro e w1 ⟨la, sa, lc, sc, ls, d, l, h, rfl, hL, hR, ll, cn, hb1⟩
  have HB1 : Hid (Below w.heap.size w w1) := hb1
  have A2 : Below w1.heap.size w1 (w1.alloc (.cells #[.slice la ls.length lc, .slice sa (ln (d + 1) (l : List (Pay × Tr d × Tr d))) sc] 26)) := (Below.refl _ _).alloc (Nat.le_refl _) _
  obtain ⟨w2, hw2⟩ : ∃ W, w1.alloc (.cells #[.slice la ls.length lc, .slice sa (ln (d + 1) (l : List (Pay × Tr d × Tr d))) sc] 26) = W := ⟨_, rfl⟩
  have p0 : w2.cell? ⟨w1.heap.size, 0, none⟩ = some (.slice la ls.length lc) := by rw [← hw2]; simp
  have p1 : w2.cell? ⟨w1.heap.size, 1, none⟩ = some (.slice sa (ln (d + 1) (l : List (Pay × Tr d × Tr d))) sc) := by rw [← hw2]; simp
  rw [hw2] at A2
  have HW2 : Hid _ := hw2
  have K2 : Hid _ := sSwayOf_any h (hL.below A2) (hR.below A2) (by omega)
  have HRR : Hid (∀ wz, Below w1.heap.size w1 wz → LRep wz (.slice la ls.length lc) ls ∧ Rep wz (d + 1) (.slice sa (ln (d + 1) (l : List (Pay × Tr d × Tr d))) sc) (l : List (Pay × Tr d × Tr d))) := (show ∀ wz, _ from fun wz hb => ⟨hL.below hb, hR.below hb⟩)
  have HA2 : Hid (Below w1.heap.size w1 w2) := A2
  obtain ⟨okb, hok⟩ : ∃ x, (progB ls (d + 1) (l : List (Pay × Tr d × Tr d)) && vIn 3 h) = x := ⟨_, rfl⟩
  obtain ⟨P, hP⟩ : ∃ x, (swayP ls (d + 1) (l : List (Pay × Tr d × Tr d)) (trustL ls h)) = x := ⟨_, rfl⟩
  rw [hok, hP] at K2
  have HOK : Hid _ := hok
  have HPP : Hid _ := hP
  have HLL : Hid (1 ≤ ls.length ∧ ls.length ≤ 8) := ll
  have HCN : Hid (cnt (d + 1) (l : List (Pay × Tr d × Tr d)) ≤ 400) := cn
  clear hok hP hw2 A2 hL hR hb1 C1 ll cn
  go_wp2_with fail
  rw [HW2.out]
  clear HW2
  (try go_at_call 11); refine Calls.mono K2.out ?_
  rintro e w3 ⟨o, va, vb, hF, rfl, hb3, ga, gb⟩
  obtain ⟨va1, va2, va3⟩ := id ga
  obtain ⟨vb1, vb2, vb3⟩ := id gb
  obtain rfl := va3.1
  obtain rfl := vb3.1
  have HF : Hid _ := hF
  have HB3 : Hid (Below w2.heap.size w2 w3) := hb3
  have HGAB : Hid (∀ wz, Below w3.heap.size w3 wz → GRep (Value.int .i64) wz (.slice va1 (rowsO ls.length o).1.length va2) (rowsO ls.length o).1 ∧ GRep (Value.int .i64) wz (.slice vb1 (rowsO ls.length o).2.length vb2) (rowsO ls.length o).2) := (show ∀ wz, _ from fun wz hb => ⟨ga.below hb, gb.below hb⟩)
  have HB13 : Hid (Below w1.heap.size w1 w3) := Below.then HA2.out hb3 HA2.out.size
  have K4 : Hid _ := swayOf_any h (HRR.out _ HB13.out).1 (HRR.out _ HB13.out).2
  rw [HOK.out, HPP.out] at K4
  replace p0 := cell_later hb3 p0
  replace p1 := cell_later hb3 p1
  clear hb3 ga gb va3 vb3 hF K2
  go_wp2_with fail
  (try go_at_call 12); refine Calls.mono K4.out ?_
  rintro e w5 ⟨o', vc, vd, hF', rfl, hb5, hT⟩
  obtain rfl : o = o' := by
    have h1 := HF.out
    cases okb
    · exact (h1 : o = none).trans (hF' : o' = none).symm
    · exact FirstP.same h1 hF'
  obtain ⟨vc1, vc2, rfl⟩ := one_len hT.a
  obtain ⟨vd1, vd2, rfl⟩ := one_len hT.b
  obtain ⟨_, gc, -⟩ := row_gown hT.a
  obtain ⟨_, gd, -⟩ := row_gown hT.b
  replace gc := gc.rep
  replace gd := gd.rep
  have HB35 : Hid (Below w3.heap.size w3 w5) := hb5
  have HB15 : Hid (Below w1.heap.size w1 w5) := Below.then HB13.out hb5 HB13.out.size
  have HB05 : Hid (Below w.heap.size w w5) := Below.then HB1.out HB15.out HB1.out.size
  have HALL : Hid (∀ wz, Below w5.heap.size w5 wz → (LRep wz (.slice la ls.length lc) ls ∧ Rep wz (d + 1) (.slice sa (ln (d + 1) (l : List (Pay × Tr d × Tr d))) sc) (l : List (Pay × Tr d × Tr d))) ∧ (GRep (Value.int .i64) wz (.slice vc1 (rowsO ls.length o).1.length vc2) (rowsO ls.length o).1 ∧ GRep (Value.int .i64) wz (.slice vd1 (rowsO ls.length o).2.length vd2) (rowsO ls.length o).2) ∧ wz.cell? ⟨w1.heap.size, 0, none⟩ = some (.slice la ls.length lc) ∧ wz.cell? ⟨w1.heap.size, 1, none⟩ = some (.slice sa (ln (d + 1) (l : List (Pay × Tr d × Tr d))) sc) ∧ Below w.heap.size w wz) :=
    (show ∀ wz, _ from fun wz hb => ⟨HRR.out wz (Below.then HB15.out hb HB15.out.size), ⟨gc.below hb, gd.below hb⟩, cell_later hb (cell_later hb5 p0), cell_later hb (cell_later hb5 p1), Below.then HB05.out hb HB05.out.size⟩)
  have KC : Hid (∀ wz, Below w5.heap.size w5 wz → Calls Tryz.prog 8 #[.slice vc1 (rowsO ls.length o).1.length vc2, .slice va1 (rowsO ls.length o).1.length va2] wz fun e w' => e = .returned (.bool true) ∧ Below wz.heap.size wz w') := (show ∀ wz, _ from fun wz hb => by
    have := lcInts_any (gc.below hb) (HGAB.out wz (Below.then HB35.out hb HB35.out.size)).1
    rwa [decide_eq_true rfl] at this)
  have KD : Hid (∀ wz, Below w5.heap.size w5 wz → Calls Tryz.prog 8 #[.slice vd1 (rowsO ls.length o).2.length vd2, .slice vb1 (rowsO ls.length o).2.length vb2] wz fun e w' => e = .returned (.bool true) ∧ Below wz.heap.size wz w') := (show ∀ wz, _ from fun wz hb => by
    have := lcInts_any (gd.below hb) (HGAB.out wz (Below.then HB35.out hb HB35.out.size)).2
    rwa [decide_eq_true rfl] at this)
  have B55 : Hid (Below w5.heap.size w5 w5) := Below.refl _ _
  clear hF' hb5 hT gc gd K4 HGAB HB35 HB15 HB13 HA2 HB3 HB1 HRR p0 p1
  go_wp2_with fail
  (try go_at_call 8); refine Calls.mono (KC.out _ B55.out) ?_
  rintro e wa ⟨rfl, hb_wa⟩
  have B_wa : Hid (Below w5.heap.size w5 wa) := Below.then B55.out hb_wa B55.out.size
  clear hb_wa
  go_wp2_with fail
  (try go_at_call 8); refine Calls.mono (KD.out _ B_wa.out) ?_
  rintro e wb ⟨rfl, hb_wb⟩
  have B_wb : Hid (Below w5.heap.size w5 wb) := Below.then B_wa.out hb_wb B_wa.out.size
  clear hb_wb
  cases o with
  | none =>
    go_wp2
    go_ret
    exact ⟨rfl, (HALL.out _ B_wb.out).2.2.2.2⟩
  | some ki =>
    obtain ⟨k, i⟩ := ki
    have HOB : Hid (okb = true ∧ FirstP P (2 ^ ls.length) (some (k, i))) := by
      have h1 := HF.out
      cases okb
      · exact nomatch (show (some (k, i) : Option (Nat × Nat)) = none from h1)
      · exact ⟨rfl, h1⟩
    have HNF : Hid ((progB ls (d + 1) (l : List (Pay × Tr d × Tr d)) && !(whyR ls (d + 1) (l : List (Pay × Tr d × Tr d))).2) = false) := by
      show (progB ls (d + 1) (l : List (Pay × Tr d × Tr d)) && !(whyR ls (d + 1) (l : List (Pay × Tr d × Tr d))).2) = false
      have h1 := HOK.out
      rw [HOB.out.1] at h1
      simp only [Bool.and_eq_true_iff, vIn, decide_eq_true_eq] at h1
      cases e : (progB ls (d + 1) (l : List (Pay × Tr d × Tr d)) && !(whyR ls (d + 1) (l : List (Pay × Tr d × Tr d))).2) with
      | false => rfl
      | true =>
        have h2 := HOB.out.2
        rw [← HPP.out] at h2
        exact (fine_no_sway h1.1 ((okR_iff h1.1).1 e) h1.2.1 h1.2.2 h2).elim
    have KT : Hid _ := typeOk_any (HALL.out _ B_wb.out).1.1 (HALL.out _ B_wb.out).1.2 (cell_later (HALL.out _ B_wb.out).2.2.2.2 HG0.out) (cell_later (HALL.out _ B_wb.out).2.2.2.2 HG1.out)
    rw [HNF.out] at KT
    obtain ⟨-, -, p0, p1, -⟩ := HALL.out _ B_wb.out
    go_wp2_with fail
    (try go_at_call 9); refine Calls.mono KT.out ?_
    rintro e wc ⟨rfl, hbc⟩
    have B_wc : Hid (Below w5.heap.size w5 wc) := Below.then B_wb.out hbc B_wb.out.size
    clear hbc p0 p1
    go_wp2
    go_ret
    exact ⟨rfl, (HALL.out _ B_wc.out).2.2.2.2⟩

end Go.Proofs.YthcgdhlemieboaaGreatDoor
