/- How large an argument is, as the laws count it. -/
import Derived.Test.YtlhfbhidgabgbaaTre
import Derived.Deep.RegionHeld3
import Derived.Deep.DrawnRows
namespace Go.Proofs.Ytlhfbhidgabgbaa
open Go.RowKit
set_option linter.unusedSimpArgs false
set_option linter.unusedVariables false

def szR (left : Int) (c : Nat) : Int := if (c : Int) ≤ left then left - c else -1
theorem szR_pos {left : Int} {c : Nat} (h : (c : Int) ≤ left) : szR left c = left - c := if_pos h
theorem szR_neg {left : Int} {c : Nat} (h : ¬ (c : Int) ≤ left) : szR left c = -1 := if_neg h

set_option maxHeartbeats 1000000 in
theorem szStep_of (p : Pay) (ta ea : Option Addr) (lt tc le ec : Nat) (m1 m2 : Nat) (left : Int) (w : World) (h0 : 0 ≤ left) (h1 : left ≤ 1048576)
    (c1 : ∀ wx left', Below w.heap.size w wx → 0 ≤ left' → left' ≤ 1048576 → Calls Try.prog 61 #[.slice ta lt tc, .int .i64 left'] wx fun e w' => e = .returned (.int .i64 (szR left' m1)) ∧ Below wx.heap.size wx w')
    (c2 : ∀ wx left', Below w.heap.size w wx → 0 ≤ left' → left' ≤ 1048576 → Calls Try.prog 61 #[.slice ea le ec, .int .i64 left'] wx fun e w' => e = .returned (.int .i64 (szR left' m2)) ∧ Below wx.heap.size wx w') :
    Calls Try.prog 89 #[.agg #[.int .i64 p.k, .int .i64 p.v, .int .i64 p.vk, .int .i64 p.va, .int .i64 p.vb, .int .i64 p.h, .slice ta lt tc, .slice ea le ec], .int .i64 left] w
      fun e w' => e = .returned (.int .i64 (szR left (m1 + m2))) ∧ Below w.heap.size w w' := by
  have A : Below w.heap.size w (w.alloc (.cells #[.int .i64 p.k, .int .i64 p.v, .int .i64 p.vk, .int .i64 p.va, .int .i64 p.vb, .int .i64 p.h, .slice ta lt tc, .slice ea le ec] 123)) := (Below.refl _ _).alloc (Nat.le_refl _) _
  have C1 : Hid _ := c1
  have C2 : Hid _ := c2
  clear c1 c2
  go_enter Try.func89, Try.ntmps89
  go_wp2_with fail
  go_at_call 61; refine (C1.out _ _ A h0 h1).mono ?_; rintro e w1 ⟨rfl, hb1⟩
  have B1 : Below w.heap.size w w1 := Below.then A hb1 (by simp)
  have p7 : w1.cell? ⟨w.heap.size, 7, none⟩ = some (.slice ea le ec) := cell_later hb1 (by simp)
  have hs1 := B1.size
  clear hb1 A
  by_cases hm : (m1 : Int) ≤ left
  · rw [szR_pos hm]
    have l0 : 0 ≤ left - m1 := by omega
    have l1 : ¬ (left - m1 < 0) := by omega
    go_wp2_with fail
    go_at_call 61; refine (C2.out _ _ B1 l0 (by omega)).mono ?_; rintro e w2 ⟨rfl, hb2⟩
    have B2 : Below w.heap.size w w2 := Below.then B1 hb2 hs1
    clear hb2 p7
    by_cases hm2 : (m2 : Int) ≤ left - m1
    · rw [szR_pos hm2]
      have l3 : ¬ (left - m1 - m2 < 0) := by omega
      have l2 : 0 ≤ left - m1 - m2 := by omega
      have HE : Hid (left - m1 - m2 = szR left (m1 + m2)) := (show left - m1 - m2 = szR left (m1 + m2) by rw [szR_pos (by omega)]; omega)
      go_wp2
      go_ret
      exact ⟨by rw [← HE.out]; rfl, B2⟩
    · rw [szR_neg hm2]
      have HE : Hid (szR left (m1 + m2) = -1) := (show szR left (m1 + m2) = -1 from szR_neg (by omega))
      go_wp2
      go_ret
      exact ⟨by rw [HE.out]; rfl, B2⟩
  · rw [szR_neg hm]
    have HE : Hid (szR left (m1 + m2) = -1) := (show szR left (m1 + m2) = -1 from szR_neg (by omega))
    go_wp2
    go_ret
    exact ⟨by rw [HE.out]; rfl, B1⟩

set_option maxHeartbeats 2000000 in
theorem szStepS_any : ∀ (d : Nat) (T : Tr d) (s : Value) (left : Int) (w : World), Rep w d s T → 0 ≤ left → left ≤ 1048576 →
    Calls Try.prog 61 #[s, .int .i64 left] w fun e w' => e = .returned (.int .i64 (szR left (cnt d T))) ∧ Below w.heap.size w w' := by
  intro d
  induction d with
  | zero =>
    intro T s left w h h0 h1
    obtain ⟨a, c, rfl⟩ := h
    have hE : szR left (cnt 0 T) = left := by rw [szR_pos (by simpa [cnt] using h0)]; simp [cnt]
    have HE : Hid _ := hE
    clear hE
    have h2 : ¬ left < 0 := by omega
    go_enter Try.func61, Try.ntmps61
    go_wp2
    refine wp_loop_rounds 1 ?_
    rw [rounds_succ]
    go_wp2
    go_ret
    exact ⟨by rw [HE.out]; rfl, Below.refl _ _⟩
  | succ d ih =>
    intro (l : List (Pay × Tr d × Tr d)) s left w h h0 h1
    obtain ⟨a, c, rfl, hlc, hcm, hcell⟩ := h
    have hlm : (l.length : Int) ≤ 9223372036854775807 := by unfold maxLen at hcm; omega
    have hll := ln_le_cnt (d + 1) (l : List (Pay × Tr d × Tr d))
    have hll' : l.length ≤ cnt (d + 1) (l : List (Pay × Tr d × Tr d)) := hll
    have hwz := w64 (left - l.length) (by omega)
    by_cases hlen : (l.length : Int) ≤ left
    case neg =>
      have hlt : left - l.length < 0 := by omega
      have HE : Hid (szR left (cnt (d + 1) (l : List (Pay × Tr d × Tr d))) = -1) := (show szR left (cnt (d + 1) (l : List (Pay × Tr d × Tr d))) = -1 from szR_neg (by omega))
      go_enter Try.func61, Try.ntmps61
      go_wp2
      go_ret
      exact ⟨by rw [HE.out]; rfl, Below.refl _ _⟩
    have HC : Hid (∀ i (hi : i < l.length), ∃ (p : Pay) (T1 T2 : Tr d) (b off : Nat) (ta : Option Addr) (tc : Nat) (ea : Option Addr) (ec : Nat), l[i] = (p, T1, T2) ∧ a = some ⟨b, off, none⟩ ∧ StepAt w b (off + i * 8) p (.slice ta (ln d T1) tc) (.slice ea (ln d T2) ec) ∧ Rep w d (.slice ta (ln d T1) tc) T1 ∧ Rep w d (.slice ea (ln d T2) ec) T2) := (show ∀ i (hi : i < l.length), _ by
      intro i hi
      obtain ⟨b, off, t, e, ha, hS, r1, r2⟩ := hcell i hi
      obtain ⟨ta, tc, rfl⟩ := r1.slice
      obtain ⟨ea, ec, rfl⟩ := r2.slice
      exact ⟨_, _, _, b, off, ta, tc, ea, ec, rfl, ha, hS, r1, r2⟩)
    have IH : Hid _ := ih
    clear ih hcell hll
    have hnn : ¬ left - (l.length : Int) < 0 := by omega
    have HT : Hid (cnt (d + 1) (l.take 0 : List (Pay × Tr d × Tr d)) = 0) := (show cnt (d + 1) (l.take 0 : List (Pay × Tr d × Tr d)) = 0 from rfl)
    go_enter Try.func61, Try.ntmps61
    go_wp2
    -- with i steps looked at: left - (what is in them) - (how many are still to come)
    go_loopw [1, 5] (fun o j wr => ∃ (i : Nat) (z : Int), i ≤ l.length ∧ j = .int .i64 i ∧ o = .int .i64 z ∧ Below w.heap.size w wr ∧ z = left - (l.length : Int) + i - cnt (d + 1) (l.take i : List (Pay × Tr d × Tr d)) ∧ 0 ≤ z) (fun _ j _ => l.length - (intOf j).toNat)
    case atStart => exact ⟨0, _, by omega, rfl, rfl, Below.refl _ _, by rw [HT.out]; omega, by omega⟩
    case round =>
      obtain ⟨i, z, hi, rfl, rfl, hbr, hz, hz0⟩ := hrel
      have hsz : w.heap.size ≤ wr.heap.size := hbr.size
      by_cases hlt : i < l.length
      · obtain ⟨p, T1, T2, b, off, ta, tc, ea, ec, hx, rfl, hS, r1, r2⟩ := HC.out i hlt
        obtain ⟨k0, k1, k2, k3, k4, k5, k6, k7⟩ := hS.on (w' := wr) (fun a v h => cell_later hbr h)
        have i0' : (0 : Int) ≤ (i : Int) := by omega
        have i1' : (i : Int) < (l.length : Int) := by omega
        have q1 := cnt_take l i hlt
        rw [hx] at q1
        dsimp only at q1
        have q2 := cnt_take_le l (i + 1)
        -- those still to come count at least as many as they are
        have q6 : l.length - (i + 1) + cnt (d + 1) (l.take (i + 1) : List (Pay × Tr d × Tr d)) ≤ cnt (d + 1) (l : List (Pay × Tr d × Tr d)) := by
          have e : cnt (d + 1) (l : List (Pay × Tr d × Tr d)) = cnt (d + 1) (l.take (i + 1) : List (Pay × Tr d × Tr d)) + cnt (d + 1) (l.drop (i + 1) : List (Pay × Tr d × Tr d)) := by
            show (l.map _).sum = ((l.take (i + 1)).map _).sum + ((l.drop (i + 1)).map _).sum
            conv => lhs; rw [← List.take_append_drop (i + 1) l]
            rw [List.map_append, List.sum_append]
          have k := ln_le_cnt (d + 1) (l.drop (i + 1) : List (Pay × Tr d × Tr d))
          have k' : (l.drop (i + 1)).length ≤ cnt (d + 1) (l.drop (i + 1) : List (Pay × Tr d × Tr d)) := k
          rw [List.length_drop] at k'
          omega
        have c1 : Hid (Calls Try.prog 89 #[.agg #[.int .i64 p.k, .int .i64 p.v, .int .i64 p.vk, .int .i64 p.va, .int .i64 p.vb, .int .i64 p.h, .slice ta (ln d T1) tc, .slice ea (ln d T2) ec], .int .i64 z] wr fun e w' => e = .returned (.int .i64 (szR z (cnt d T1 + cnt d T2))) ∧ Below wr.heap.size wr w') := szStep_of p ta ea (ln d T1) tc (ln d T2) ec (cnt d T1) (cnt d T2) z wr hz0 (by omega) (fun wx l' hwx a b => IH.out T1 _ l' wx ((r1.below hbr).below hwx) a b) (fun wx l' hwx a b => IH.out T2 _ l' wx ((r2.below hbr).below hwx) a b)
        have HZ0 : Hid (z = left - (l.length : Int) + i - cnt (d + 1) (l.take i : List (Pay × Tr d × Tr d))) := hz
        clear hS r1 r2 hz
        go_wp2_with fail
        have hz := HZ0.out
        go_at_call 89; refine Calls.mono c1.out ?_; rintro e w1 ⟨rfl, hb1⟩
        have B1 : Below w.heap.size w w1 := Below.then hbr hb1 hsz
        clear hbr hb1 c1 k0 k1 k2 k3 k4 k5 k6 k7
        by_cases hm : ((cnt d T1 + cnt d T2 : Nat) : Int) ≤ z
        · rw [szR_pos hm]
          have hn0 : 0 ≤ z - ((cnt d T1 + cnt d T2 : Nat) : Int) := by omega
          have hn1 : ¬ z - ((cnt d T1 + cnt d T2 : Nat) : Int) < 0 := by omega
          have HZ : Hid (z - ((cnt d T1 + cnt d T2 : Nat) : Int) = left - (l.length : Int) + (i + 1 : Nat) - cnt (d + 1) (l.take (i + 1) : List (Pay × Tr d × Tr d))) := (show z - ((cnt d T1 + cnt d T2 : Nat) : Int) = left - (l.length : Int) + (i + 1 : Nat) - cnt (d + 1) (l.take (i + 1) : List (Pay × Tr d × Tr d)) by rw [q1]; omega)
          clear q1 q2 q6 hz
          generalize z - ((cnt d T1 + cnt d T2 : Nat) : Int) = z' at *
          go_wp2
          exact ⟨⟨i + 1, z', by omega, by simp, rfl, B1, HZ.out, hn0⟩, by simp [intOf]; omega⟩
        · rw [szR_neg hm]
          have HE : Hid (szR left (cnt (d + 1) (l : List (Pay × Tr d × Tr d))) = -1) := (show szR left (cnt (d + 1) (l : List (Pay × Tr d × Tr d))) = -1 from szR_neg (by omega))
          go_wp2
          go_ret
          exact ⟨by rw [HE.out]; rfl, B1⟩
      · have : i = l.length := by omega
        subst this
        rw [List.take_length] at hz
        have HE : Hid (szR left (cnt (d + 1) (l : List (Pay × Tr d × Tr d))) = z) := (show szR left (cnt (d + 1) (l : List (Pay × Tr d × Tr d))) = z by rw [szR_pos (by omega)]; omega)
        have HB : Hid (Below w.heap.size w wr) := hbr
        clear hz hbr
        go_wp2
        go_ret
        exact ⟨by rw [HE.out]; rfl, HB.out⟩

theorem szLabelS_any {lv : Value} {ls : List (Int × Int)} {left : Int} {w : World} (hL : LRep w lv ls) (h0 : 0 ≤ left) (h1 : left ≤ 1048576) :
    Calls Try.prog 60 #[lv, .int .i64 left] w fun e w' => e = .returned (.int .i64 (szR left ls.length)) ∧ Below w.heap.size w w' := by
  obtain ⟨la, lc, rfl, hlc, hcm, -⟩ := hL
  have hlm : (ls.length : Int) ≤ 9223372036854775807 := by unfold maxLen at hcm; omega
  have hwz := w64 (left - ls.length) (by omega)
  by_cases hlen : (ls.length : Int) ≤ left
  · rw [szR_pos hlen]
    have hnn : ¬ left - (ls.length : Int) < 0 := by omega
    have hn0 : 0 ≤ left - (ls.length : Int) := by omega
    go_enter Try.func60, Try.ntmps60
    go_wp2
    go_ret
    exact ⟨rfl, Below.refl _ _⟩
  · rw [szR_neg hlen]
    have hlt : left - (ls.length : Int) < 0 := by omega
    go_enter Try.func60, Try.ntmps60
    go_wp2
    go_ret
    exact ⟨rfl, Below.refl _ _⟩

theorem szProg_any {d : Nat} {T : Tr d} {lv sv : Value} {ls : List (Int × Int)} {left : Int} {w : World} (hL : LRep w lv ls) (hR : Rep w d sv T) (h0 : 0 ≤ left) (h1 : left ≤ 1048576) :
    Calls Try.prog 29 #[.agg #[lv, sv], .int .i64 left] w fun e w' => e = .returned (.int .i64 (szR left (ls.length + cnt d T))) ∧ Below w.heap.size w w' := by
  have A : Below w.heap.size w (w.alloc (.cells #[lv, sv] 53)) := (Below.refl _ _).alloc (Nat.le_refl _) _
  have C1 : Hid _ := szLabelS_any (hL.below A) h0 h1
  have HR : Hid (∀ w', Below w.heap.size w w' → Rep w' d sv T) := (show ∀ w', _ from fun w' hb => hR.below hb)
  obtain ⟨la, lc, rfl, -⟩ := hL
  obtain ⟨sa, sc, rfl⟩ := hR.slice
  clear hR
  go_enter Try.func29, Try.ntmps29
  go_wp2_with fail
  go_at_call 60; refine Calls.mono C1.out ?_; rintro e w1 ⟨rfl, hb1⟩
  have B1 : Below w.heap.size w w1 := Below.then A hb1 (by simp)
  have p7 : w1.cell? ⟨w.heap.size, 1, none⟩ = some (.slice sa (ln d T) sc) := cell_later hb1 (by simp)
  have hs1 := B1.size
  clear hb1 A C1
  by_cases hm : (ls.length : Int) ≤ left
  · rw [szR_pos hm]
    have l0 : 0 ≤ left - ls.length := by omega
    have l1 : ¬ (left - ls.length < 0) := by omega
    have C2 : Hid _ := szStepS_any d T _ (left - ls.length) w1 (HR.out w1 B1) l0 (by omega)
    go_wp2_with fail
    go_at_call 61; refine Calls.mono C2.out ?_; rintro e w2 ⟨rfl, hb2⟩
    have B2 : Below w.heap.size w w2 := Below.then B1 hb2 hs1
    clear hb2 p7 C2
    by_cases hm2 : (cnt d T : Int) ≤ left - ls.length
    · rw [szR_pos hm2]
      have l3 : ¬ (left - ls.length - cnt d T < 0) := by omega
      have l2 : 0 ≤ left - ls.length - cnt d T := by omega
      have HE : Hid (left - ls.length - cnt d T = szR left (ls.length + cnt d T)) := (show left - ls.length - cnt d T = szR left (ls.length + cnt d T) by rw [szR_pos (by omega)]; omega)
      go_wp2
      go_ret
      exact ⟨by rw [← HE.out]; rfl, B2⟩
    · rw [szR_neg hm2]
      have HE : Hid (szR left (ls.length + cnt d T) = -1) := (show szR left (ls.length + cnt d T) = -1 from szR_neg (by omega))
      go_wp2
      go_ret
      exact ⟨by rw [HE.out]; rfl, B2⟩
  · rw [szR_neg hm]
    have HE : Hid (szR left (ls.length + cnt d T) = -1) := (show szR left (ls.length + cnt d T) = -1 from szR_neg (by omega))
    go_wp2
    go_ret
    exact ⟨by rw [HE.out]; rfl, B1⟩

end Go.Proofs.Ytlhfbhidgabgbaa

namespace Go.Proofs.Ytlhfbhidgabgbaa
open Go.RowKit
set_option linter.unusedSimpArgs false
set_option linter.unusedVariables false
attribute [local go_sem ↓] Go.wp_at_zero Go.wp_at_succ
attribute [local go_sem] World.cell?_alloc_some

theorem eqVal_same (a b c : Int) (w : World) :
    Calls Try.prog 113 #[.agg #[.int .i64 a, .int .i64 b, .int .i64 c], .agg #[.int .i64 a, .int .i64 b, .int .i64 c]] w fun e w' => e = .returned (.bool true) ∧ Below w.heap.size w w' := by
  go_enter Try.func113, Try.ntmps113
  go_wp2
  go_ret
  refine ⟨rfl, ?_⟩
  repeat' (first | exact Below.refl _ _ | assumption | (refine Below.drew ?_) | (refine Below.then ?_ (by assumption) ?_) | (refine Below.alloc ?_ ?_ _) | (refine Below.setCell ?_ ?_ _) | (simp; done) | (simp at *; omega) | omega)
theorem eqLabel_same (a b : Int) (w : World) :
    Calls Try.prog 92 #[.agg #[.int .i64 a, .int .i64 b], .agg #[.int .i64 a, .int .i64 b]] w fun e w' => e = .returned (.bool true) ∧ Below w.heap.size w w' := by
  go_enter Try.func92, Try.ntmps92
  go_wp2
  go_ret
  refine ⟨rfl, ?_⟩
  repeat' (first | exact Below.refl _ _ | assumption | (refine Below.drew ?_) | (refine Below.then ?_ (by assumption) ?_) | (refine Below.alloc ?_ ?_ _) | (refine Below.setCell ?_ ?_ _) | (simp; done) | (simp at *; omega) | omega)

set_option maxHeartbeats 2000000 in
theorem eqStep_of (p : Pay) (ta ea ta' ea' : Option Addr) (lt tc le ec tc' ec' : Nat) (w : World)
    (c1 : ∀ wx, Below w.heap.size w wx → Calls Try.prog 65 #[.slice ta lt tc, .slice ta' lt tc'] wx fun e w' => e = .returned (.bool true) ∧ Below wx.heap.size wx w')
    (c2 : ∀ wx, Below w.heap.size w wx → Calls Try.prog 65 #[.slice ea le ec, .slice ea' le ec'] wx fun e w' => e = .returned (.bool true) ∧ Below wx.heap.size wx w') :
    Calls Try.prog 93 #[.agg #[.int .i64 p.k, .int .i64 p.v, .int .i64 p.vk, .int .i64 p.va, .int .i64 p.vb, .int .i64 p.h, .slice ta lt tc, .slice ea le ec], .agg #[.int .i64 p.k, .int .i64 p.v, .int .i64 p.vk, .int .i64 p.va, .int .i64 p.vb, .int .i64 p.h, .slice ta' lt tc', .slice ea' le ec']] w
      fun e w' => e = .returned (.bool true) ∧ Below w.heap.size w w' := by
  have A : Below w.heap.size w ((w.alloc (.cells #[.int .i64 p.k, .int .i64 p.v, .int .i64 p.vk, .int .i64 p.va, .int .i64 p.vb, .int .i64 p.h, .slice ta lt tc, .slice ea le ec] 91)).alloc (.cells #[.int .i64 p.k, .int .i64 p.v, .int .i64 p.vk, .int .i64 p.va, .int .i64 p.vb, .int .i64 p.h, .slice ta' lt tc', .slice ea' le ec'] 91)) := ((Below.refl _ _).alloc (Nat.le_refl _) _).alloc (by simp) _
  have C1 : Hid _ := c1
  have C2 : Hid _ := c2
  clear c1 c2
  go_enter Try.func93, Try.ntmps93
  go_wp2_with fail
  go_at_call 113; refine (eqVal_same _ _ _ _).mono ?_; rintro e w1 ⟨rfl, hb1⟩
  have B1 : Below w.heap.size w w1 := Below.then A hb1 (by simp; omega)
  have x5 : w1.cell? ⟨w.heap.size, 5, none⟩ = some (.int .i64 p.h) := cell_later hb1 (by go_simp)
  have x6 : w1.cell? ⟨w.heap.size, 6, none⟩ = some (.slice ta lt tc) := cell_later hb1 (by go_simp)
  have x7 : w1.cell? ⟨w.heap.size, 7, none⟩ = some (.slice ea le ec) := cell_later hb1 (by go_simp)
  have y5 : w1.cell? ⟨w.heap.size + 1, 5, none⟩ = some (.int .i64 p.h) := cell_later hb1 (by go_simp)
  have y6 : w1.cell? ⟨w.heap.size + 1, 6, none⟩ = some (.slice ta' lt tc') := cell_later hb1 (by go_simp)
  have y7 : w1.cell? ⟨w.heap.size + 1, 7, none⟩ = some (.slice ea' le ec') := cell_later hb1 (by go_simp)
  clear hb1 A
  go_wp2_with fail
  go_at_call 65; refine (C1.out _ B1).mono ?_; rintro e w2 ⟨rfl, hb2⟩
  have B2 : Below w.heap.size w w2 := Below.then B1 hb2 B1.size
  replace x7 := cell_later hb2 x7
  replace y7 := cell_later hb2 y7
  clear hb2 x5 x6 y5 y6 B1
  go_wp2_with fail
  go_at_call 65; refine (C2.out _ B2).mono ?_; rintro e w3 ⟨rfl, hb3⟩
  have B3 : Below w.heap.size w w3 := Below.then B2 hb3 B2.size
  clear hb3 x7 y7 B2
  go_wp2
  go_ret
  exact ⟨rfl, B3⟩

theorem SQ1 {w wz : World} {b o b' o' : Nat} {p : Pay} {t e t' e' : Value} (h : StepAt wz b o p t e ∧ StepAt wz b' o' p t' e' ∧ Below w.heap.size w wz) : StepAt wz.drew b o p t e ∧ StepAt wz.drew b' o' p t' e' ∧ Below w.heap.size w wz.drew := ⟨h.1, h.2.1, h.2.2.drew⟩
theorem SQ2 {w wz wx : World} {b o b' o' : Nat} {p : Pay} {t e t' e' : Value} (h : StepAt wz b o p t e ∧ StepAt wz b' o' p t' e' ∧ Below w.heap.size w wz) (hb : Below wz.heap.size wz wx) : StepAt wx b o p t e ∧ StepAt wx b' o' p t' e' ∧ Below w.heap.size w wx :=
  ⟨h.1.on (fun _ _ h => cell_later hb h), h.2.1.on (fun _ _ h => cell_later hb h), Below.then h.2.2 hb h.2.2.size⟩
theorem SL1 {w wz : World} {a1 a2 a3 a4 : Addr} {v1 v2 v3 v4 : Value} (h : (wz.cell? a1 = some v1 ∧ wz.cell? a2 = some v2) ∧ (wz.cell? a3 = some v3 ∧ wz.cell? a4 = some v4) ∧ Below w.heap.size w wz) : (wz.drew.cell? a1 = some v1 ∧ wz.drew.cell? a2 = some v2) ∧ (wz.drew.cell? a3 = some v3 ∧ wz.drew.cell? a4 = some v4) ∧ Below w.heap.size w wz.drew := ⟨h.1, h.2.1, h.2.2.drew⟩
theorem SL2 {w wz wx : World} {a1 a2 a3 a4 : Addr} {v1 v2 v3 v4 : Value} (h : (wz.cell? a1 = some v1 ∧ wz.cell? a2 = some v2) ∧ (wz.cell? a3 = some v3 ∧ wz.cell? a4 = some v4) ∧ Below w.heap.size w wz) (hb : Below wz.heap.size wz wx) : (wx.cell? a1 = some v1 ∧ wx.cell? a2 = some v2) ∧ (wx.cell? a3 = some v3 ∧ wx.cell? a4 = some v4) ∧ Below w.heap.size w wx :=
  ⟨⟨cell_later hb h.1.1, cell_later hb h.1.2⟩, ⟨cell_later hb h.2.1.1, cell_later hb h.2.1.2⟩, Below.then h.2.2 hb h.2.2.size⟩

set_option maxHeartbeats 2000000 in
theorem eqStepS_same : ∀ (d : Nat) (T : Tr d) (s s' : Value) (w : World), Rep w d s T → Rep w d s' T →
    Calls Try.prog 65 #[s, s'] w fun e w' => e = .returned (.bool true) ∧ Below w.heap.size w w' := by
  intro d
  induction d with
  | zero =>
    intro T s s' w h h'
    obtain ⟨a, c, rfl⟩ := h
    obtain ⟨a', c', rfl⟩ := h'
    go_enter Try.func65, Try.ntmps65
    go_wp2
    refine wp_loop_rounds 1 ?_
    rw [rounds_succ]
    go_wp2
    go_ret
    exact ⟨rfl, Below.refl _ _⟩
  | succ d ih =>
    intro (l : List (Pay × Tr d × Tr d)) s s' w h h'
    obtain ⟨a, c, rfl, hlc, hcm, hcell⟩ := h
    obtain ⟨a', c', rfl, hlc', hcm', hcell'⟩ := h'
    have hlm : (l.length : Int) ≤ 9223372036854775807 := by unfold maxLen at hcm; omega
    have HC : Hid (∀ i (hi : i < l.length), ∃ (p : Pay) (T1 T2 : Tr d) (b off : Nat) (ta : Option Addr) (tc : Nat) (ea : Option Addr) (ec : Nat) (b' off' : Nat) (ta' : Option Addr) (tc' : Nat) (ea' : Option Addr) (ec' : Nat), (a = some ⟨b, off, none⟩ ∧ StepAt w b (off + i * 8) p (.slice ta (ln d T1) tc) (.slice ea (ln d T2) ec) ∧ Rep w d (.slice ta (ln d T1) tc) T1 ∧ Rep w d (.slice ea (ln d T2) ec) T2) ∧
        (a' = some ⟨b', off', none⟩ ∧ StepAt w b' (off' + i * 8) p (.slice ta' (ln d T1) tc') (.slice ea' (ln d T2) ec') ∧ Rep w d (.slice ta' (ln d T1) tc') T1 ∧ Rep w d (.slice ea' (ln d T2) ec') T2)) := (show ∀ i (hi : i < l.length), _ by
      intro i hi
      obtain ⟨b, off, t, e, ha, hS, r1, r2⟩ := hcell i hi
      obtain ⟨ta, tc, rfl⟩ := r1.slice
      obtain ⟨ea, ec, rfl⟩ := r2.slice
      obtain ⟨b', off', t', e', ha', hS', r1', r2'⟩ := hcell' i hi
      obtain ⟨ta', tc', rfl⟩ := r1'.slice
      obtain ⟨ea', ec', rfl⟩ := r2'.slice
      exact ⟨_, _, _, b, off, ta, tc, ea, ec, b', off', ta', tc', ea', ec', ⟨ha, hS, r1, r2⟩, ha', hS', r1', r2'⟩)
    have IH : Hid _ := ih
    clear ih hcell hcell'
    go_enter Try.func65, Try.ntmps65
    go_wp2
    go_loopw [5] (fun j wr => ∃ (i : Nat), i ≤ l.length ∧ j = .int .i64 i ∧ Below w.heap.size w wr) (fun j _ => l.length - (intOf j).toNat)
    case atStart => exact ⟨0, by omega, rfl, Below.refl _ _⟩
    case round =>
      obtain ⟨i, hi, rfl, hbr⟩ := hrel
      by_cases hlt : i < l.length
      · obtain ⟨p, T1, T2, b, off, ta, tc, ea, ec, b', off', ta', tc', ea', ec', ⟨rfl, hS1, r1, r2⟩, rfl, hS2, r1', r2'⟩ := HC.out i hlt
        replace hS1 := hS1.on (w' := wr) (fun a v h => cell_later hbr h)
        replace hS2 := hS2.on (w' := wr) (fun a v h => cell_later hbr h)
        have i0' : (0 : Int) ≤ (i : Int) := by omega
        have i1' : (i : Int) < (l.length : Int) := by omega
        have c1 : Hid (∀ wx, Below w.heap.size w wx → Calls Try.prog 93 #[.agg #[.int .i64 p.k, .int .i64 p.v, .int .i64 p.vk, .int .i64 p.va, .int .i64 p.vb, .int .i64 p.h, .slice ta (ln d T1) tc, .slice ea (ln d T2) ec], .agg #[.int .i64 p.k, .int .i64 p.v, .int .i64 p.vk, .int .i64 p.va, .int .i64 p.vb, .int .i64 p.h, .slice ta' (ln d T1) tc', .slice ea' (ln d T2) ec']] wx fun e w' => e = .returned (.bool true) ∧ Below wx.heap.size wx w') := (show ∀ wx, _ from fun wx hwx =>
          eqStep_of p ta ea ta' ea' _ tc _ ec tc' ec' wx (fun wy hy => IH.out T1 _ _ wy (r1.below (hwx.trans (hy.mono hwx.size))) (r1'.below (hwx.trans (hy.mono hwx.size)))) (fun wy hy => IH.out T2 _ _ wy (r2.below (hwx.trans (hy.mono hwx.size))) (r2'.below (hwx.trans (hy.mono hwx.size)))))
        clear r1 r2 r1' r2'
        go_wp2_with fail
        refine wp_region_held (S := (fun wz => StepAt wz b (off + i * 8) p (.slice ta (ln d T1) tc) (.slice ea (ln d T2) ec) ∧ StepAt wz b' (off' + i * 8) p (.slice ta' (ln d T1) tc') (.slice ea' (ln d T2) ec') ∧ Below w.heap.size w wz)) (by kernel_rfl) ?_
        change wpAnyH _ _ _ _ _ _ _ _ (World.drew _)
        have hHeld := SQ1 ⟨hS1, hS2, hbr⟩
        refine' wpAnyH_take (i := 0) (v := _) rfl (by kernel_rfl) (by kernel_rfl) (by kernel_rfl) (fun _ _ _ h => h) (Or.inl ⟨by rfl, ?hy1⟩) hHeld ?hn1
        case hy1 => (intro wz hSw; (try dsimp only at hSw); go_simp; first | done | with_reducible rfl)
        try simp only [List.getElem_toArray, List.getElem_cons_zero, List.getElem_cons_succ, Act.put, List.setIfInBounds_toArray, List.set_cons_zero, List.set_cons_succ]
        refine' wpAnyH_take (i := 1) (v := _) rfl (by kernel_rfl) (by kernel_rfl) (by kernel_rfl) (fun _ _ _ h => h) (Or.inl ⟨by rfl, ?hy2⟩) hHeld ?hn2
        case hy2 => (intro wz hSw; (try dsimp only at hSw); go_simp; first | done | with_reducible rfl)
        try simp only [List.getElem_toArray, List.getElem_cons_zero, List.getElem_cons_succ, Act.put, List.setIfInBounds_toArray, List.set_cons_zero, List.set_cons_succ]
        refine' wpAnyH_take (i := 2) (v := _) rfl (by kernel_rfl) (by kernel_rfl) (by kernel_rfl) (fun _ _ _ h => h) (Or.inl ⟨by rfl, ?hy3⟩) hHeld ?hn3
        case hy3 => (intro wz hSw; (try dsimp only at hSw); go_simp; first | done | with_reducible rfl)
        try simp only [List.getElem_toArray, List.getElem_cons_zero, List.getElem_cons_succ, Act.put, List.setIfInBounds_toArray, List.set_cons_zero, List.set_cons_succ]
        refine' wpAnyH_take (i := 3) (v := .agg #[.int .i64 p.k, .int .i64 p.v, .int .i64 p.vk, .int .i64 p.va, .int .i64 p.vb, .int .i64 p.h, .slice ta (ln d T1) tc, .slice ea (ln d T2) ec]) rfl (by kernel_rfl) (by kernel_rfl) (by kernel_rfl) (fun _ _ _ h => h) (Or.inl ⟨by rfl, ?hy4⟩) hHeld ?hn4
        case hy4 => (intro wz hSw; obtain ⟨⟨k0, k1, k2, k3, k4, k5, k6, k7⟩, _, _⟩ := hSw; go_simp)
        try simp only [List.getElem_toArray, List.getElem_cons_zero, List.getElem_cons_succ, Act.put, List.setIfInBounds_toArray, List.set_cons_zero, List.set_cons_succ]
        refine' wpAnyH_take (i := 4) (v := _) rfl (by kernel_rfl) (by kernel_rfl) (by kernel_rfl) (fun _ _ _ h => h) (Or.inl ⟨by rfl, ?hy5⟩) hHeld ?hn5
        case hy5 => (intro wz hSw; (try dsimp only at hSw); go_simp; first | done | with_reducible rfl)
        try simp only [List.getElem_toArray, List.getElem_cons_zero, List.getElem_cons_succ, Act.put, List.setIfInBounds_toArray, List.set_cons_zero, List.set_cons_succ]
        refine' wpAnyH_take (i := 5) (v := _) rfl (by kernel_rfl) (by kernel_rfl) (by kernel_rfl) (fun _ _ _ h => h) (Or.inl ⟨by rfl, ?hy6⟩) hHeld ?hn6
        case hy6 => (intro wz hSw; (try dsimp only at hSw); go_simp; first | done | with_reducible rfl)
        try simp only [List.getElem_toArray, List.getElem_cons_zero, List.getElem_cons_succ, Act.put, List.setIfInBounds_toArray, List.set_cons_zero, List.set_cons_succ]
        refine' wpAnyH_take (i := 6) (v := _) rfl (by kernel_rfl) (by kernel_rfl) (by kernel_rfl) (fun _ _ _ h => h) (Or.inl ⟨by rfl, ?hy7⟩) hHeld ?hn7
        case hy7 => (intro wz hSw; (try dsimp only at hSw); go_simp; first | done | with_reducible rfl)
        try simp only [List.getElem_toArray, List.getElem_cons_zero, List.getElem_cons_succ, Act.put, List.setIfInBounds_toArray, List.set_cons_zero, List.set_cons_succ]
        refine' wpAnyH_take (i := 7) (v := .agg #[.int .i64 p.k, .int .i64 p.v, .int .i64 p.vk, .int .i64 p.va, .int .i64 p.vb, .int .i64 p.h, .slice ta' (ln d T1) tc', .slice ea' (ln d T2) ec']) rfl (by kernel_rfl) (by kernel_rfl) (by kernel_rfl) (fun _ _ _ h => h) (Or.inl ⟨by rfl, ?hy8⟩) hHeld ?hn8
        case hy8 => (intro wz hSw; obtain ⟨_, ⟨k0, k1, k2, k3, k4, k5, k6, k7⟩, _⟩ := hSw; go_simp)
        try simp only [List.getElem_toArray, List.getElem_cons_zero, List.getElem_cons_succ, Act.put, List.setIfInBounds_toArray, List.set_cons_zero, List.set_cons_succ]
        refine wpAnyH_ready (rs := [8]) (by kernel_rfl) (by simp) ?_
        refine AllReadyH.cons rfl (fun K hK => ?_) AllReadyH.nil
        go_simp
        refine (c1.out _ hHeld.2.2).mono ?_; rintro e' w9 ⟨rfl, hbx⟩
        refine hK.out _ _ (SQ2 hHeld hbx) (fun hHeld => ?_)
        clear hK K
        refine' wpAnyH_take (i := 9) (v := _) rfl (by kernel_rfl) (by kernel_rfl) (by kernel_rfl) (fun _ _ _ h => h) (Or.inl ⟨by rfl, ?hy9⟩) hHeld ?hn9
        case hy9 => (intro wz hSw; (try dsimp only at hSw); go_simp; first | done | with_reducible rfl)
        try simp only [List.getElem_toArray, List.getElem_cons_zero, List.getElem_cons_succ, Act.put, List.setIfInBounds_toArray, List.set_cons_zero, List.set_cons_succ]
        refine wpAnyH_done (by kernel_rfl) ?_ _
        obtain ⟨_, _, hB9⟩ := hHeld
        go_wp2
        exact ⟨⟨i + 1, by omega, by simp, hB9⟩, by simp [intOf]; omega⟩
      · have : i = l.length := by omega
        subst this
        have HB : Hid (Below w.heap.size w wr) := hbr
        clear hbr
        go_wp2
        go_ret
        exact ⟨rfl, HB.out⟩

set_option maxHeartbeats 2000000 in
theorem eqLabelS_same {lv lv' : Value} {ls : List (Int × Int)} {w : World} (h : LRep w lv ls) (h' : LRep w lv' ls) :
    Calls Try.prog 64 #[lv, lv'] w fun e w' => e = .returned (.bool true) ∧ Below w.heap.size w w' := by
  obtain ⟨a, c, rfl, hlc, hcm, hcell⟩ := h
  obtain ⟨a', c', rfl, hlc', hcm', hcell'⟩ := h'
  have hlm : (ls.length : Int) ≤ 9223372036854775807 := by unfold maxLen at hcm; omega
  have HC : Hid (∀ i (hi : i < ls.length), ∃ b off b' off' k t, (a = some ⟨b, off, none⟩ ∧ w.cell? ⟨b, off + i * 2, none⟩ = some (.int .i64 k) ∧ w.cell? ⟨b, off + i * 2 + 1, none⟩ = some (.int .i64 t)) ∧ (a' = some ⟨b', off', none⟩ ∧ w.cell? ⟨b', off' + i * 2, none⟩ = some (.int .i64 k) ∧ w.cell? ⟨b', off' + i * 2 + 1, none⟩ = some (.int .i64 t))) := (show ∀ i (hi : i < ls.length), _ by
    intro i hi
    obtain ⟨b, off, ha, h0, h1⟩ := hcell i hi
    obtain ⟨b', off', ha', h0', h1'⟩ := hcell' i hi
    exact ⟨b, off, b', off', _, _, ⟨ha, h0, h1⟩, ha', h0', h1'⟩)
  clear hcell hcell'
  go_enter Try.func64, Try.ntmps64
  go_wp2
  go_loopw [5] (fun j wr => ∃ (i : Nat), i ≤ ls.length ∧ j = .int .i64 i ∧ Below w.heap.size w wr) (fun j _ => ls.length - (intOf j).toNat)
  case atStart => exact ⟨0, by omega, rfl, Below.refl _ _⟩
  case round =>
    obtain ⟨i, hi, rfl, hbr⟩ := hrel
    by_cases hlt : i < ls.length
    · obtain ⟨b, off, b', off', k, t, ⟨rfl, k0, k1⟩, rfl, m0, m1⟩ := HC.out i hlt
      replace k0 := cell_later hbr k0
      replace k1 := cell_later hbr k1
      replace m0 := cell_later hbr m0
      replace m1 := cell_later hbr m1
      have i0' : (0 : Int) ≤ (i : Int) := by omega
      have i1' : (i : Int) < (ls.length : Int) := by omega
      go_wp2_with fail
      refine wp_region_held (S := (fun wz => (wz.cell? ⟨b, off + i * 2, none⟩ = some (.int .i64 k) ∧ wz.cell? ⟨b, off + i * 2 + 1, none⟩ = some (.int .i64 t)) ∧ (wz.cell? ⟨b', off' + i * 2, none⟩ = some (.int .i64 k) ∧ wz.cell? ⟨b', off' + i * 2 + 1, none⟩ = some (.int .i64 t)) ∧ Below w.heap.size w wz)) (by kernel_rfl) ?_
      change wpAnyH _ _ _ _ _ _ _ _ (World.drew _)
      have hHeld := SL1 ⟨⟨k0, k1⟩, ⟨m0, m1⟩, hbr⟩
      refine' wpAnyH_take (i := 0) (v := _) rfl (by kernel_rfl) (by kernel_rfl) (by kernel_rfl) (fun _ _ _ h => h) (Or.inl ⟨by rfl, ?hy10⟩) hHeld ?hn10
      case hy10 => (intro wz hSw; (try dsimp only at hSw); go_simp; first | done | with_reducible rfl)
      try simp only [List.getElem_toArray, List.getElem_cons_zero, List.getElem_cons_succ, Act.put, List.setIfInBounds_toArray, List.set_cons_zero, List.set_cons_succ]
      refine' wpAnyH_take (i := 1) (v := _) rfl (by kernel_rfl) (by kernel_rfl) (by kernel_rfl) (fun _ _ _ h => h) (Or.inl ⟨by rfl, ?hy11⟩) hHeld ?hn11
      case hy11 => (intro wz hSw; (try dsimp only at hSw); go_simp; first | done | with_reducible rfl)
      try simp only [List.getElem_toArray, List.getElem_cons_zero, List.getElem_cons_succ, Act.put, List.setIfInBounds_toArray, List.set_cons_zero, List.set_cons_succ]
      refine' wpAnyH_take (i := 2) (v := _) rfl (by kernel_rfl) (by kernel_rfl) (by kernel_rfl) (fun _ _ _ h => h) (Or.inl ⟨by rfl, ?hy12⟩) hHeld ?hn12
      case hy12 => (intro wz hSw; (try dsimp only at hSw); go_simp; first | done | with_reducible rfl)
      try simp only [List.getElem_toArray, List.getElem_cons_zero, List.getElem_cons_succ, Act.put, List.setIfInBounds_toArray, List.set_cons_zero, List.set_cons_succ]
      refine' wpAnyH_take (i := 3) (v := .agg #[.int .i64 k, .int .i64 t]) rfl (by kernel_rfl) (by kernel_rfl) (by kernel_rfl) (fun _ _ _ h => h) (Or.inl ⟨by rfl, ?hy13⟩) hHeld ?hn13
      case hy13 => (intro wz hSw; obtain ⟨⟨k0, k1⟩, _, _⟩ := hSw; go_simp)
      try simp only [List.getElem_toArray, List.getElem_cons_zero, List.getElem_cons_succ, Act.put, List.setIfInBounds_toArray, List.set_cons_zero, List.set_cons_succ]
      refine' wpAnyH_take (i := 4) (v := _) rfl (by kernel_rfl) (by kernel_rfl) (by kernel_rfl) (fun _ _ _ h => h) (Or.inl ⟨by rfl, ?hy14⟩) hHeld ?hn14
      case hy14 => (intro wz hSw; (try dsimp only at hSw); go_simp; first | done | with_reducible rfl)
      try simp only [List.getElem_toArray, List.getElem_cons_zero, List.getElem_cons_succ, Act.put, List.setIfInBounds_toArray, List.set_cons_zero, List.set_cons_succ]
      refine' wpAnyH_take (i := 5) (v := _) rfl (by kernel_rfl) (by kernel_rfl) (by kernel_rfl) (fun _ _ _ h => h) (Or.inl ⟨by rfl, ?hy15⟩) hHeld ?hn15
      case hy15 => (intro wz hSw; (try dsimp only at hSw); go_simp; first | done | with_reducible rfl)
      try simp only [List.getElem_toArray, List.getElem_cons_zero, List.getElem_cons_succ, Act.put, List.setIfInBounds_toArray, List.set_cons_zero, List.set_cons_succ]
      refine' wpAnyH_take (i := 6) (v := _) rfl (by kernel_rfl) (by kernel_rfl) (by kernel_rfl) (fun _ _ _ h => h) (Or.inl ⟨by rfl, ?hy16⟩) hHeld ?hn16
      case hy16 => (intro wz hSw; (try dsimp only at hSw); go_simp; first | done | with_reducible rfl)
      try simp only [List.getElem_toArray, List.getElem_cons_zero, List.getElem_cons_succ, Act.put, List.setIfInBounds_toArray, List.set_cons_zero, List.set_cons_succ]
      refine' wpAnyH_take (i := 7) (v := .agg #[.int .i64 k, .int .i64 t]) rfl (by kernel_rfl) (by kernel_rfl) (by kernel_rfl) (fun _ _ _ h => h) (Or.inl ⟨by rfl, ?hy17⟩) hHeld ?hn17
      case hy17 => (intro wz hSw; obtain ⟨_, ⟨k0, k1⟩, _⟩ := hSw; go_simp)
      try simp only [List.getElem_toArray, List.getElem_cons_zero, List.getElem_cons_succ, Act.put, List.setIfInBounds_toArray, List.set_cons_zero, List.set_cons_succ]
      refine wpAnyH_ready (rs := [8]) (by kernel_rfl) (by simp) ?_
      refine AllReadyH.cons rfl (fun K hK => ?_) AllReadyH.nil
      go_simp
      refine (eqLabel_same _ _ _).mono ?_; rintro e' w9 ⟨rfl, hbx⟩
      refine hK.out _ _ (SL2 hHeld hbx) (fun hHeld => ?_)
      clear hK K
      refine' wpAnyH_take (i := 9) (v := _) rfl (by kernel_rfl) (by kernel_rfl) (by kernel_rfl) (fun _ _ _ h => h) (Or.inl ⟨by rfl, ?hy18⟩) hHeld ?hn18
      case hy18 => (intro wz hSw; (try dsimp only at hSw); go_simp; first | done | with_reducible rfl)
      try simp only [List.getElem_toArray, List.getElem_cons_zero, List.getElem_cons_succ, Act.put, List.setIfInBounds_toArray, List.set_cons_zero, List.set_cons_succ]
      refine wpAnyH_done (by kernel_rfl) ?_ _
      obtain ⟨_, _, hB9⟩ := hHeld
      go_wp2
      exact ⟨⟨i + 1, by omega, by simp, hB9⟩, by simp [intOf]; omega⟩
    · have : i = ls.length := by omega
      subst this
      have HB : Hid (Below w.heap.size w wr) := hbr
      clear hbr
      go_wp2
      go_ret
      exact ⟨rfl, HB.out⟩

theorem eqProg_same {d : Nat} {T : Tr d} {lv sv lv' sv' : Value} {ls : List (Int × Int)} {w : World} (hL : LRep w lv ls) (hR : Rep w d sv T) (hL' : LRep w lv' ls) (hR' : Rep w d sv' T) :
    Calls Try.prog 32 #[.agg #[lv, sv], .agg #[lv', sv']] w fun e w' => e = .returned (.bool true) ∧ Below w.heap.size w w' := by
  have A : Below w.heap.size w ((w.alloc (.cells #[lv, sv] 26)).alloc (.cells #[lv', sv'] 26)) := ((Below.refl _ _).alloc (Nat.le_refl _) _).alloc (by simp) _
  have C1 : Hid _ := eqLabelS_same (hL.below A) (hL'.below A)
  have C2 : Hid (∀ wx, Below w.heap.size w wx → Calls Try.prog 65 #[sv, sv'] wx fun e w' => e = .returned (.bool true) ∧ Below wx.heap.size wx w') := (show ∀ wx, _ from fun wx hb => eqStepS_same d T _ _ wx (hR.below hb) (hR'.below hb))
  obtain ⟨la, lc, rfl, -⟩ := hL
  obtain ⟨sa, sc, rfl⟩ := hR.slice
  obtain ⟨la', lc', rfl, -⟩ := hL'
  obtain ⟨sa', sc', rfl⟩ := hR'.slice
  clear hR hR'
  go_enter Try.func32, Try.ntmps32
  go_wp2_with fail
  go_at_call 64; refine Calls.mono C1.out ?_; rintro e w1 ⟨rfl, hb1⟩
  have B1 : Below w.heap.size w w1 := Below.then A hb1 (by simp; omega)
  have x1 : w1.cell? ⟨w.heap.size, 1, none⟩ = some (.slice sa (ln d T) sc) := cell_later hb1 (by go_simp)
  have y1 : w1.cell? ⟨w.heap.size + 1, 1, none⟩ = some (.slice sa' (ln d T) sc') := cell_later hb1 (by go_simp)
  clear hb1 A C1
  go_wp2_with fail
  go_at_call 65; refine (C2.out _ B1).mono ?_; rintro e w2 ⟨rfl, hb2⟩
  have B2 : Below w.heap.size w w2 := Below.then B1 hb2 B1.size
  clear hb2 B1
  go_wp2
  go_ret
  exact ⟨rfl, B2⟩

end Go.Proofs.Ytlhfbhidgabgbaa
