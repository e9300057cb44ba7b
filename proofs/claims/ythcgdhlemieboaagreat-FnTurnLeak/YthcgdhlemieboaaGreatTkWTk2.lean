/- A turned program tells turned hosts too much with the same rows: the law, walked. -/
import Derived.Test.YthcgdhlemieboaaGreatTkTia
import Derived.Test.YthcgdhlemieboaaGreatTkLef
import Derived.Test.YthcgdhlemieboaaGreatTkLcx
import Derived.Test.YthcgdhlemieboaaGreatTkLeu
import Derived.Test.YthcgdhlemieboaaGreatTkTps
import Derived.Test.YthcgdhlemieboaaGreatTkTpi
namespace Go.Proofs.YthcgdhlemieboaaGreat
open Go.RowKit
set_option linter.unusedSimpArgs false
set_option linter.unusedVariables false
attribute [local go_sem ↓] Go.wp_at_zero Go.wp_at_succ
attribute [local go_sem] World.cell?_alloc_some

set_option maxHeartbeats 16000000 in
set_option maxRecDepth 20000 in
theorem fnTurnLeak_walk (a0 : Option Addr) (len0 cap0 : Nat) (z0 : List Int) (w : World) (h0 : IsRow .u8 w a0 len0 cap0 z0) :
    Calls Tryz.prog 3 #[.slice a0 len0 cap0] w fun e w' => e = .returned (.bool true) ∧ Below w.heap.size w w' := by
  by_cases hl0 : (1048576 : Int) < (len0 : Int)
  · go_enter Tryz.func3, Tryz.ntmps3
    go_wp2
    go_ret
    exact ⟨rfl, Below.refl _ _⟩
  have C1 : Hid _ := drawLeakOf_any w a0 len0 cap0 z0 h0
  clear h0
  go_enter Tryz.func3, Tryz.ntmps3
  go_wp2_with fail
  go_at_call 4; refine Calls.mono C1.out ?_
  rintro e w1 ⟨la, sa, lc, sc, ls, d, l, h, rfl, hL, hR, ll, cn, hb1⟩
  have HB1 : Hid (Below w.heap.size w w1) := hb1
  have A2 : Below w1.heap.size w1 (w1.alloc (.cells #[.slice la ls.length lc, .slice sa (ln (d + 1) (l : List (Pay × Tr d × Tr d))) sc] 26)) := (Below.refl _ _).alloc (Nat.le_refl _) _
  obtain ⟨w2, hw2⟩ : ∃ W, w1.alloc (.cells #[.slice la ls.length lc, .slice sa (ln (d + 1) (l : List (Pay × Tr d × Tr d))) sc] 26) = W := ⟨_, rfl⟩
  have p0 : w2.cell? ⟨w1.heap.size, 0, none⟩ = some (.slice la ls.length lc) := by rw [← hw2]; simp
  have p1 : w2.cell? ⟨w1.heap.size, 1, none⟩ = some (.slice sa (ln (d + 1) (l : List (Pay × Tr d × Tr d))) sc) := by rw [← hw2]; simp
  rw [hw2] at A2
  have HW2 : Hid _ := hw2
  have K2 : Hid _ := sLeakOf_any h (hL.below A2) (hR.below A2) (by omega)
  have HRR : Hid (∀ wz, Below w1.heap.size w1 wz → LRep wz (.slice la ls.length lc) ls ∧ Rep wz (d + 1) (.slice sa (ln (d + 1) (l : List (Pay × Tr d × Tr d))) sc) (l : List (Pay × Tr d × Tr d))) := (show ∀ wz, _ from fun wz hb => ⟨hL.below hb, hR.below hb⟩)
  have HA2 : Hid (Below w1.heap.size w1 w2) := A2
  obtain ⟨okb, hok⟩ : ∃ x, (progB ls (d + 1) (l : List (Pay × Tr d × Tr d)) && vIn 3 h) = x := ⟨_, rfl⟩
  obtain ⟨P, hP⟩ : ∃ x, (leakP ls (d + 1) (l : List (Pay × Tr d × Tr d)) (knowL ls h) h) = x := ⟨_, rfl⟩
  rw [hok, hP] at K2
  have HOK : Hid _ := hok
  have HPP : Hid _ := hP
  have HLL : Hid (1 ≤ ls.length ∧ ls.length ≤ 8) := ll
  have HCN : Hid (cnt (d + 1) (l : List (Pay × Tr d × Tr d)) ≤ 400) := cn
  clear hok hP hw2 A2 hL hR hb1 C1 ll cn
  go_wp2_with fail
  rw [HW2.out]
  clear HW2
  (try go_at_call 5); refine Calls.mono K2.out ?_
  rintro e w3 ⟨o, va, vb, hF, rfl, hb3, ga, gb⟩
  obtain ⟨va1, va2, va3⟩ := id ga
  obtain ⟨vb1, vb2, vb3⟩ := id gb
  obtain rfl := va3.1
  obtain rfl := vb3.1
  have HF : Hid _ := hF
  have HB3 : Hid (Below w2.heap.size w2 w3) := hb3
  have HGAB : Hid (∀ wz, Below w3.heap.size w3 wz → GRep (Value.int .i64) wz (.slice va1 (rowsO ls.length o).1.length va2) (rowsO ls.length o).1 ∧ GRep (Value.int .i64) wz (.slice vb1 (rowsO ls.length o).2.length vb2) (rowsO ls.length o).2) := (show ∀ wz, _ from fun wz hb => ⟨ga.below hb, gb.below hb⟩)
  have HB13 : Hid (Below w1.heap.size w1 w3) := Below.then HA2.out hb3 HA2.out.size
  have K4 : Hid _ := leakOf_any h (HRR.out _ HB13.out).1 (HRR.out _ HB13.out).2
  rw [HOK.out, HPP.out] at K4
  replace p0 := cell_later hb3 p0
  replace p1 := cell_later hb3 p1
  clear hb3 ga gb va3 vb3 hF K2
  go_wp2_with fail
  (try go_at_call 6); refine Calls.mono K4.out ?_
  rintro e w5 ⟨o', vc, vd, hF', rfl, hb5, hT⟩
  obtain rfl : o = o' := by
    have h1 := HF.out
    cases okb
    · exact (h1 : o = none).trans (hF' : o' = none).symm
    · exact FirstP.same h1 hF'
  obtain ⟨vc1, vc2, rfl⟩ := one_len hT.a
  obtain ⟨vd1, vd2, rfl⟩ := one_len hT.b
  obtain ⟨_, gc, -⟩ := row_gown hT.a
  obtain ⟨_, gd, -⟩ := row_gown hT.b
  replace gc := gc.rep
  replace gd := gd.rep
  have HB35 : Hid (Below w3.heap.size w3 w5) := hb5
  have HB15 : Hid (Below w1.heap.size w1 w5) := Below.then HB13.out hb5 HB13.out.size
  have HB05 : Hid (Below w.heap.size w w5) := Below.then HB1.out HB15.out HB1.out.size
  have HALL : Hid (∀ wz, Below w5.heap.size w5 wz → (LRep wz (.slice la ls.length lc) ls ∧ Rep wz (d + 1) (.slice sa (ln (d + 1) (l : List (Pay × Tr d × Tr d))) sc) (l : List (Pay × Tr d × Tr d))) ∧ (GRep (Value.int .i64) wz (.slice vc1 (rowsO ls.length o).1.length vc2) (rowsO ls.length o).1 ∧ GRep (Value.int .i64) wz (.slice vd1 (rowsO ls.length o).2.length vd2) (rowsO ls.length o).2) ∧ wz.cell? ⟨w1.heap.size, 0, none⟩ = some (.slice la ls.length lc) ∧ wz.cell? ⟨w1.heap.size, 1, none⟩ = some (.slice sa (ln (d + 1) (l : List (Pay × Tr d × Tr d))) sc) ∧ Below w.heap.size w wz) :=
    (show ∀ wz, _ from fun wz hb => ⟨HRR.out wz (Below.then HB15.out hb HB15.out.size), ⟨gc.below hb, gd.below hb⟩, cell_later hb (cell_later hb5 p0), cell_later hb (cell_later hb5 p1), Below.then HB05.out hb HB05.out.size⟩)
  have KC : Hid (∀ wz, Below w5.heap.size w5 wz → Calls Tryz.prog 8 #[.slice vc1 (rowsO ls.length o).1.length vc2, .slice va1 (rowsO ls.length o).1.length va2] wz fun e w' => e = .returned (.bool true) ∧ Below wz.heap.size wz w') := (show ∀ wz, _ from fun wz hb => by
    have := lcInts_any (gc.below hb) (HGAB.out wz (Below.then HB35.out hb HB35.out.size)).1
    rwa [decide_eq_true rfl] at this)
  have KD : Hid (∀ wz, Below w5.heap.size w5 wz → Calls Tryz.prog 8 #[.slice vd1 (rowsO ls.length o).2.length vd2, .slice vb1 (rowsO ls.length o).2.length vb2] wz fun e w' => e = .returned (.bool true) ∧ Below wz.heap.size wz w') := (show ∀ wz, _ from fun wz hb => by
    have := lcInts_any (gd.below hb) (HGAB.out wz (Below.then HB35.out hb HB35.out.size)).2
    rwa [decide_eq_true rfl] at this)
  have B55 : Hid (Below w5.heap.size w5 w5) := Below.refl _ _
  clear hF' hb5 hT gc gd K4 HGAB HB35 HB15 HB13 HA2 HB3 HB1 HRR p0 p1
  cases o with
  | none =>
    go_wp2
    go_ret
    exact ⟨rfl, (HALL.out _ B55.out).2.2.2.2⟩
  | some ki =>
    obtain ⟨k, i⟩ := ki
    have HOB : Hid (okb = true ∧ FirstP P (2 ^ ls.length) (some (k, i))) := by
      have h1 := HF.out
      cases okb
      · exact nomatch (show (some (k, i) : Option (Nat × Nat)) = none from h1)
      · exact ⟨rfl, h1⟩
    have HPR : Hid (progB ls (d + 1) (l : List (Pay × Tr d × Tr d)) = true ∧ 0 ≤ h ∧ h < 3) := by
      have h1 := HOK.out
      rw [HOB.out.1] at h1
      simp only [Bool.and_eq_true_iff, vIn, decide_eq_true_eq] at h1
      exact h1
    have HP2 : Hid (FirstP (leakP ls (d + 1) (l : List (Pay × Tr d × Tr d)) (knowL ls h) h) (2 ^ ls.length) (some (k, i))) := by
      have h1 := HOB.out.2
      rw [← HPP.out] at h1
      exact h1
    obtain ⟨LN, hLN⟩ : ∃ x, tpL [1, 2, 0] ls (d + 1) (l : List (Pay × Tr d × Tr d)) = x := ⟨_, rfl⟩
    obtain ⟨TN, hTN⟩ : ∃ x, tpT [1, 2, 0] ls (d + 1) (l : List (Pay × Tr d × Tr d)) = x := ⟨_, rfl⟩
    have HTF := tp_facts HPR.out.1
    have HTO : tpOk [1, 2, 0] ls (d + 1) (l : List (Pay × Tr d × Tr d)) = true := tp120 HPR.out.1
    obtain ⟨w6, hw6⟩ : ∃ W, w5.alloc (.cells #[.int .i64 1, .int .i64 2, .int .i64 0] 3) = W := ⟨_, rfl⟩
    have A6 : Below w5.heap.size w5 w6 := by rw [← hw6]; exact (Below.refl _ _).alloc (Nat.le_refl _) _
    have G6 : GRep (Value.int .i64) w6 (.slice (some ⟨w5.heap.size, 0, none⟩) ([1, 2, 0] : List Int).length 3) [1, 2, 0] := by
      refine ⟨_, _, rfl, Nat.le_refl _, by unfold maxLen; decide, fun q hq => ⟨w5.heap.size, 0, rfl, ?_⟩⟩
      rw [← hw6]
      match q, hq with
      | 0, _ => simp
      | 1, _ => simp
      | 2, _ => simp
      | q + 3, h => simp at h; omega
    have KT : Hid _ := turnProg_any (HALL.out _ A6).1.1 (HALL.out _ A6).1.2 G6
    rw [HTO, hLN, hTN] at KT
    rw [hLN, hTN] at HTF
    have B6 : Hid (Below w5.heap.size w5 w6) := A6
    have HW6 : Hid _ := hw6
    have HLT : Hid _ := And.intro hLN hTN
    have HTF' : Hid _ := HTF
    obtain ⟨-, -, p0, p1, -⟩ := HALL.out _ (Below.refl w5.heap.size w5)
    clear hw6 A6 G6 hLN hTN HTO HTF
    go_wp2_with fail
    rw [HW6.out]
    clear HW6 p0 p1
    (try go_at_call 7); refine Calls.mono KT.out ?_
    rintro e w7 ⟨tlv, tsv, c1, c2, rfl, hb7, olw, osw, -, -, -⟩
    obtain ⟨tla, tlc, rfl, -⟩ := id olw.rep
    obtain ⟨tsa, tsc, rfl⟩ := osw.slice
    have B7 : Hid (Below w5.heap.size w5 w7) := Below.then B6.out hb7 B6.out.size
    obtain ⟨w8, hw8⟩ : ∃ W, w7.alloc (.cells #[.slice tla LN.length tlc, .slice tsa (ln (d + 1) TN) tsc] 26) = W := ⟨_, rfl⟩
    have A8 : Below w7.heap.size w7 w8 := by rw [← hw8]; exact (Below.refl _ _).alloc (Nat.le_refl _) _
    have q0 : w8.cell? ⟨w7.heap.size, 0, none⟩ = some (.slice tla LN.length tlc) := by rw [← hw8]; simp
    have q1 : w8.cell? ⟨w7.heap.size, 1, none⟩ = some (.slice tsa (ln (d + 1) TN) tsc) := by rw [← hw8]; simp
    have HLR : Hid (LRep w8 (.slice tla LN.length tlc) LN ∧ Rep w8 (d + 1) (.slice tsa (ln (d + 1) TN) tsc) TN) := ⟨olw.rep.below A8, osw.rep.below A8⟩
    have B8 : Hid (Below w5.heap.size w5 w8) := Below.then B7.out A8 B7.out.size
    have HW8 : Hid _ := hw8
    clear hw8 A8 olw osw hb7 KT
    have hh := HPR.out.2
    obtain rfl | rfl | rfl : h = 0 ∨ h = 1 ∨ h = 2 := by omega
    · have hf : FirstP (leakP (tpL [1, 2, 0] ls (d + 1) (l : List (Pay × Tr d × Tr d))) (d + 1) (tpT [1, 2, 0] ls (d + 1) (l : List (Pay × Tr d × Tr d))) (knowL (tpL [1, 2, 0] ls (d + 1) (l : List (Pay × Tr d × Tr d))) 1) 1) (2 ^ ls.length) (some (k, i)) := first_turn HPR.out.1 0 (by omega) HP2.out
      rw [HLT.out.1, HLT.out.2] at hf
      have HFF : Hid _ := hf
      have KL0 := leakOf_any 1 HLR.out.1 HLR.out.2
      have KL : Hid (Calls Tryz.prog 6 #[.agg #[.slice tla LN.length tlc, .slice tsa (ln (d + 1) TN) tsc], .int .i64 1] w8 (LkpPost w8 true (leakP LN (d + 1) TN (knowL LN 1) 1) ls.length)) := Calls.mono KL0 (fun e w' h => by rw [HTF'.out.1, HTF'.out.2] at h; exact h)
      clear KL0
      clear hf hh
      go_wp2_with fail
      try rw [HW8.out]
      clear HW8
      (try go_at_call 6); refine Calls.mono KL.out ?_
      rintro e w9 ⟨o9, vx, vy, hF9, rfl, hb9, hT9⟩
      obtain rfl : some (k, i) = o9 := FirstP.same HFF.out hF9
      obtain ⟨vx1, vx2, rfl⟩ := one_len hT9.a
      obtain ⟨vy1, vy2, rfl⟩ := one_len hT9.b
      obtain ⟨_, gx, -⟩ := row_gown hT9.a
      obtain ⟨_, gy, -⟩ := row_gown hT9.b
      replace gx := gx.rep
      replace gy := gy.rep
      have B9 : Hid (Below w5.heap.size w5 w9) := Below.then B8.out hb9 B8.out.size
      have K1 : Hid _ := lcInts_any (HALL.out _ B9.out).2.1.1 gx
      rw [decide_eq_true rfl] at K1
      have K2 : Hid (∀ wz, Below w9.heap.size w9 wz → Calls Tryz.prog 8 #[.slice vd1 (rowsO ls.length (some (k, i))).2.length vd2, .slice vy1 (rowsO ls.length (some (k, i))).2.length vy2] wz fun e w' => e = .returned (.bool true) ∧ Below wz.heap.size wz w') := (show ∀ wz, _ from fun wz hb => by
        have := lcInts_any (HALL.out _ (Below.then B9.out hb B9.out.size)).2.1.2 (gy.below hb)
        rwa [decide_eq_true rfl] at this)
      clear gx gy hF9 hb9 hT9 q0 q1
      go_wp2_with fail
      (try go_at_call 8); refine Calls.mono K1.out ?_
      rintro e wa ⟨rfl, hba⟩
      have Ba : Hid (Below w5.heap.size w5 wa) := Below.then B9.out hba B9.out.size
      have KB2 : Hid _ := K2.out _ hba
      clear hba
      go_wp2_with fail
      (try go_at_call 8); refine Calls.mono KB2.out ?_
      rintro e wb ⟨rfl, hbb⟩
      have Bb : Hid (Below w5.heap.size w5 wb) := Below.then Ba.out hbb Ba.out.size
      clear hbb
      go_wp2
      go_ret
      exact ⟨rfl, (HALL.out _ Bb.out).2.2.2.2⟩
    · have hf : FirstP (leakP (tpL [1, 2, 0] ls (d + 1) (l : List (Pay × Tr d × Tr d))) (d + 1) (tpT [1, 2, 0] ls (d + 1) (l : List (Pay × Tr d × Tr d))) (knowL (tpL [1, 2, 0] ls (d + 1) (l : List (Pay × Tr d × Tr d))) 2) 2) (2 ^ ls.length) (some (k, i)) := first_turn HPR.out.1 1 (by omega) HP2.out
      rw [HLT.out.1, HLT.out.2] at hf
      have HFF : Hid _ := hf
      have KL0 := leakOf_any 2 HLR.out.1 HLR.out.2
      have KL : Hid (Calls Tryz.prog 6 #[.agg #[.slice tla LN.length tlc, .slice tsa (ln (d + 1) TN) tsc], .int .i64 2] w8 (LkpPost w8 true (leakP LN (d + 1) TN (knowL LN 2) 2) ls.length)) := Calls.mono KL0 (fun e w' h => by rw [HTF'.out.1, HTF'.out.2] at h; exact h)
      clear KL0
      clear hf hh
      go_wp2_with fail
      try rw [HW8.out]
      clear HW8
      (try go_at_call 6); refine Calls.mono KL.out ?_
      rintro e w9 ⟨o9, vx, vy, hF9, rfl, hb9, hT9⟩
      obtain rfl : some (k, i) = o9 := FirstP.same HFF.out hF9
      obtain ⟨vx1, vx2, rfl⟩ := one_len hT9.a
      obtain ⟨vy1, vy2, rfl⟩ := one_len hT9.b
      obtain ⟨_, gx, -⟩ := row_gown hT9.a
      obtain ⟨_, gy, -⟩ := row_gown hT9.b
      replace gx := gx.rep
      replace gy := gy.rep
      have B9 : Hid (Below w5.heap.size w5 w9) := Below.then B8.out hb9 B8.out.size
      have K1 : Hid _ := lcInts_any (HALL.out _ B9.out).2.1.1 gx
      rw [decide_eq_true rfl] at K1
      have K2 : Hid (∀ wz, Below w9.heap.size w9 wz → Calls Tryz.prog 8 #[.slice vd1 (rowsO ls.length (some (k, i))).2.length vd2, .slice vy1 (rowsO ls.length (some (k, i))).2.length vy2] wz fun e w' => e = .returned (.bool true) ∧ Below wz.heap.size wz w') := (show ∀ wz, _ from fun wz hb => by
        have := lcInts_any (HALL.out _ (Below.then B9.out hb B9.out.size)).2.1.2 (gy.below hb)
        rwa [decide_eq_true rfl] at this)
      clear gx gy hF9 hb9 hT9 q0 q1
      go_wp2_with fail
      (try go_at_call 8); refine Calls.mono K1.out ?_
      rintro e wa ⟨rfl, hba⟩
      have Ba : Hid (Below w5.heap.size w5 wa) := Below.then B9.out hba B9.out.size
      have KB2 : Hid _ := K2.out _ hba
      clear hba
      go_wp2_with fail
      (try go_at_call 8); refine Calls.mono KB2.out ?_
      rintro e wb ⟨rfl, hbb⟩
      have Bb : Hid (Below w5.heap.size w5 wb) := Below.then Ba.out hbb Ba.out.size
      clear hbb
      go_wp2
      go_ret
      exact ⟨rfl, (HALL.out _ Bb.out).2.2.2.2⟩
    · have hf : FirstP (leakP (tpL [1, 2, 0] ls (d + 1) (l : List (Pay × Tr d × Tr d))) (d + 1) (tpT [1, 2, 0] ls (d + 1) (l : List (Pay × Tr d × Tr d))) (knowL (tpL [1, 2, 0] ls (d + 1) (l : List (Pay × Tr d × Tr d))) 0) 0) (2 ^ ls.length) (some (k, i)) := first_turn HPR.out.1 2 (by omega) HP2.out
      rw [HLT.out.1, HLT.out.2] at hf
      have HFF : Hid _ := hf
      have KL0 := leakOf_any 0 HLR.out.1 HLR.out.2
      have KL : Hid (Calls Tryz.prog 6 #[.agg #[.slice tla LN.length tlc, .slice tsa (ln (d + 1) TN) tsc], .int .i64 0] w8 (LkpPost w8 true (leakP LN (d + 1) TN (knowL LN 0) 0) ls.length)) := Calls.mono KL0 (fun e w' h => by rw [HTF'.out.1, HTF'.out.2] at h; exact h)
      clear KL0
      clear hf hh
      go_wp2_with fail
      try rw [HW8.out]
      clear HW8
      (try go_at_call 6); refine Calls.mono KL.out ?_
      rintro e w9 ⟨o9, vx, vy, hF9, rfl, hb9, hT9⟩
      obtain rfl : some (k, i) = o9 := FirstP.same HFF.out hF9
      obtain ⟨vx1, vx2, rfl⟩ := one_len hT9.a
      obtain ⟨vy1, vy2, rfl⟩ := one_len hT9.b
      obtain ⟨_, gx, -⟩ := row_gown hT9.a
      obtain ⟨_, gy, -⟩ := row_gown hT9.b
      replace gx := gx.rep
      replace gy := gy.rep
      have B9 : Hid (Below w5.heap.size w5 w9) := Below.then B8.out hb9 B8.out.size
      have K1 : Hid _ := lcInts_any (HALL.out _ B9.out).2.1.1 gx
      rw [decide_eq_true rfl] at K1
      have K2 : Hid (∀ wz, Below w9.heap.size w9 wz → Calls Tryz.prog 8 #[.slice vd1 (rowsO ls.length (some (k, i))).2.length vd2, .slice vy1 (rowsO ls.length (some (k, i))).2.length vy2] wz fun e w' => e = .returned (.bool true) ∧ Below wz.heap.size wz w') := (show ∀ wz, _ from fun wz hb => by
        have := lcInts_any (HALL.out _ (Below.then B9.out hb B9.out.size)).2.1.2 (gy.below hb)
        rwa [decide_eq_true rfl] at this)
      clear gx gy hF9 hb9 hT9 q0 q1
      go_wp2_with fail
      (try go_at_call 8); refine Calls.mono K1.out ?_
      rintro e wa ⟨rfl, hba⟩
      have Ba : Hid (Below w5.heap.size w5 wa) := Below.then B9.out hba B9.out.size
      have KB2 : Hid _ := K2.out _ hba
      clear hba
      go_wp2_with fail
      (try go_at_call 8); refine Calls.mono KB2.out ?_
      rintro e wb ⟨rfl, hbb⟩
      have Bb : Hid (Below w5.heap.size w5 wb) := Below.then Ba.out hbb Ba.out.size
      clear hbb
      go_wp2
      go_ret
      exact ⟨rfl, (HALL.out _ Bb.out).2.2.2.2⟩

end Go.Proofs.YthcgdhlemieboaaGreat
