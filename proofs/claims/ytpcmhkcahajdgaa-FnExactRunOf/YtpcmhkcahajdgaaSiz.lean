/- How large an argument is, as the laws count it. -/
import Derived.Test.YtpcmhkcahajdgaaTre
namespace Go.Proofs.Ytpcmhkcahajdgaa
open Go.RowKit
set_option linter.unusedSimpArgs false
set_option linter.unusedVariables false

def szR (left : Int) (c : Nat) : Int := if (c : Int) ≤ left then left - c else -1
theorem szR_pos {left : Int} {c : Nat} (h : (c : Int) ≤ left) : szR left c = left - c := if_pos h
theorem szR_neg {left : Int} {c : Nat} (h : ¬ (c : Int) ≤ left) : szR left c = -1 := if_neg h

set_option maxHeartbeats 1000000 in
theorem szStep_of (p : Pay) (ta ea : Option Addr) (lt tc le ec : Nat) (m1 m2 : Nat) (left : Int) (w : World) (h0 : 0 ≤ left) (h1 : left ≤ 1048576)
    (c1 : ∀ wx left', Below w.heap.size w wx → 0 ≤ left' → left' ≤ 1048576 → Calls Try.prog 88 #[.slice ta lt tc, .int .i64 left'] wx fun e w' => e = .returned (.int .i64 (szR left' m1)) ∧ Below wx.heap.size wx w')
    (c2 : ∀ wx left', Below w.heap.size w wx → 0 ≤ left' → left' ≤ 1048576 → Calls Try.prog 88 #[.slice ea le ec, .int .i64 left'] wx fun e w' => e = .returned (.int .i64 (szR left' m2)) ∧ Below wx.heap.size wx w') :
    Calls Try.prog 118 #[.agg #[.int .i64 p.k, .int .i64 p.v, .int .i64 p.vk, .int .i64 p.va, .int .i64 p.vb, .int .i64 p.h, .slice ta lt tc, .slice ea le ec], .int .i64 left] w
      fun e w' => e = .returned (.int .i64 (szR left (m1 + m2))) ∧ Below w.heap.size w w' := by
  have A : Below w.heap.size w (w.alloc (.cells #[.int .i64 p.k, .int .i64 p.v, .int .i64 p.vk, .int .i64 p.va, .int .i64 p.vb, .int .i64 p.h, .slice ta lt tc, .slice ea le ec] 137)) := (Below.refl _ _).alloc (Nat.le_refl _) _
  have C1 : Hid _ := c1
  have C2 : Hid _ := c2
  clear c1 c2
  go_enter Try.func118, Try.ntmps118
  go_wp2_with fail
  go_at_call 88; refine (C1.out _ _ A h0 h1).mono ?_; rintro e w1 ⟨rfl, hb1⟩
  have B1 : Below w.heap.size w w1 := Below.then A hb1 (by simp)
  have p7 : w1.cell? ⟨w.heap.size, 7, none⟩ = some (.slice ea le ec) := cell_later hb1 (by simp)
  have hs1 := B1.size
  clear hb1 A
  by_cases hm : (m1 : Int) ≤ left
  · rw [szR_pos hm]
    have l0 : 0 ≤ left - m1 := by omega
    have l1 : ¬ (left - m1 < 0) := by omega
    go_wp2_with fail
    go_at_call 88; refine (C2.out _ _ B1 l0 (by omega)).mono ?_; rintro e w2 ⟨rfl, hb2⟩
    have B2 : Below w.heap.size w w2 := Below.then B1 hb2 hs1
    clear hb2 p7
    by_cases hm2 : (m2 : Int) ≤ left - m1
    · rw [szR_pos hm2]
      have l3 : ¬ (left - m1 - m2 < 0) := by omega
      have l2 : 0 ≤ left - m1 - m2 := by omega
      have HE : Hid (left - m1 - m2 = szR left (m1 + m2)) := (show left - m1 - m2 = szR left (m1 + m2) by rw [szR_pos (by omega)]; omega)
      go_wp2
      go_ret
      exact ⟨by rw [← HE.out]; rfl, B2⟩
    · rw [szR_neg hm2]
      have HE : Hid (szR left (m1 + m2) = -1) := (show szR left (m1 + m2) = -1 from szR_neg (by omega))
      go_wp2
      go_ret
      exact ⟨by rw [HE.out]; rfl, B2⟩
  · rw [szR_neg hm]
    have HE : Hid (szR left (m1 + m2) = -1) := (show szR left (m1 + m2) = -1 from szR_neg (by omega))
    go_wp2
    go_ret
    exact ⟨by rw [HE.out]; rfl, B1⟩

set_option maxHeartbeats 2000000 in
theorem szStepS_any : ∀ (d : Nat) (T : Tr d) (s : Value) (left : Int) (w : World), Rep w d s T → 0 ≤ left → left ≤ 1048576 →
    Calls Try.prog 88 #[s, .int .i64 left] w fun e w' => e = .returned (.int .i64 (szR left (cnt d T))) ∧ Below w.heap.size w w' := by
  intro d
  induction d with
  | zero =>
    intro T s left w h h0 h1
    obtain ⟨a, c, rfl⟩ := h
    have hE : szR left (cnt 0 T) = left := by rw [szR_pos (by simpa [cnt] using h0)]; simp [cnt]
    have HE : Hid _ := hE
    clear hE
    have h2 : ¬ left < 0 := by omega
    go_enter Try.func88, Try.ntmps88
    go_wp2
    refine wp_loop_rounds 1 ?_
    rw [rounds_succ]
    go_wp2
    go_ret
    exact ⟨by rw [HE.out]; rfl, Below.refl _ _⟩
  | succ d ih =>
    intro (l : List (Pay × Tr d × Tr d)) s left w h h0 h1
    obtain ⟨a, c, rfl, hlc, hcm, hcell⟩ := h
    have hlm : (l.length : Int) ≤ 9223372036854775807 := by unfold maxLen at hcm; omega
    have hll := ln_le_cnt (d + 1) (l : List (Pay × Tr d × Tr d))
    have hll' : l.length ≤ cnt (d + 1) (l : List (Pay × Tr d × Tr d)) := hll
    have hwz := w64 (left - l.length) (by omega)
    by_cases hlen : (l.length : Int) ≤ left
    case neg =>
      have hlt : left - l.length < 0 := by omega
      have HE : Hid (szR left (cnt (d + 1) (l : List (Pay × Tr d × Tr d))) = -1) := (show szR left (cnt (d + 1) (l : List (Pay × Tr d × Tr d))) = -1 from szR_neg (by omega))
      go_enter Try.func88, Try.ntmps88
      go_wp2
      go_ret
      exact ⟨by rw [HE.out]; rfl, Below.refl _ _⟩
    have HC : Hid (∀ i (hi : i < l.length), ∃ (p : Pay) (T1 T2 : Tr d) (b off : Nat) (ta : Option Addr) (tc : Nat) (ea : Option Addr) (ec : Nat), l[i] = (p, T1, T2) ∧ a = some ⟨b, off, none⟩ ∧ StepAt w b (off + i * 8) p (.slice ta (ln d T1) tc) (.slice ea (ln d T2) ec) ∧ Rep w d (.slice ta (ln d T1) tc) T1 ∧ Rep w d (.slice ea (ln d T2) ec) T2) := (show ∀ i (hi : i < l.length), _ by
      intro i hi
      obtain ⟨b, off, t, e, ha, hS, r1, r2⟩ := hcell i hi
      obtain ⟨ta, tc, rfl⟩ := r1.slice
      obtain ⟨ea, ec, rfl⟩ := r2.slice
      exact ⟨_, _, _, b, off, ta, tc, ea, ec, rfl, ha, hS, r1, r2⟩)
    have IH : Hid _ := ih
    clear ih hcell hll
    have hnn : ¬ left - (l.length : Int) < 0 := by omega
    have HT : Hid (cnt (d + 1) (l.take 0 : List (Pay × Tr d × Tr d)) = 0) := (show cnt (d + 1) (l.take 0 : List (Pay × Tr d × Tr d)) = 0 from rfl)
    go_enter Try.func88, Try.ntmps88
    go_wp2
    -- with i steps looked at: left - (what is in them) - (how many are still to come)
    go_loopw [1, 5] (fun o j wr => ∃ (i : Nat) (z : Int), i ≤ l.length ∧ j = .int .i64 i ∧ o = .int .i64 z ∧ Below w.heap.size w wr ∧ z = left - (l.length : Int) + i - cnt (d + 1) (l.take i : List (Pay × Tr d × Tr d)) ∧ 0 ≤ z) (fun _ j _ => l.length - (intOf j).toNat)
    case atStart => exact ⟨0, _, by omega, rfl, rfl, Below.refl _ _, by rw [HT.out]; omega, by omega⟩
    case round =>
      obtain ⟨i, z, hi, rfl, rfl, hbr, hz, hz0⟩ := hrel
      have hsz : w.heap.size ≤ wr.heap.size := hbr.size
      by_cases hlt : i < l.length
      · obtain ⟨p, T1, T2, b, off, ta, tc, ea, ec, hx, rfl, hS, r1, r2⟩ := HC.out i hlt
        obtain ⟨k0, k1, k2, k3, k4, k5, k6, k7⟩ := hS.on (w' := wr) (fun a v h => cell_later hbr h)
        have i0' : (0 : Int) ≤ (i : Int) := by omega
        have i1' : (i : Int) < (l.length : Int) := by omega
        have q1 := cnt_take l i hlt
        rw [hx] at q1
        dsimp only at q1
        have q2 := cnt_take_le l (i + 1)
        -- those still to come count at least as many as they are
        have q6 : l.length - (i + 1) + cnt (d + 1) (l.take (i + 1) : List (Pay × Tr d × Tr d)) ≤ cnt (d + 1) (l : List (Pay × Tr d × Tr d)) := by
          have e : cnt (d + 1) (l : List (Pay × Tr d × Tr d)) = cnt (d + 1) (l.take (i + 1) : List (Pay × Tr d × Tr d)) + cnt (d + 1) (l.drop (i + 1) : List (Pay × Tr d × Tr d)) := by
            show (l.map _).sum = ((l.take (i + 1)).map _).sum + ((l.drop (i + 1)).map _).sum
            conv => lhs; rw [← List.take_append_drop (i + 1) l]
            rw [List.map_append, List.sum_append]
          have k := ln_le_cnt (d + 1) (l.drop (i + 1) : List (Pay × Tr d × Tr d))
          have k' : (l.drop (i + 1)).length ≤ cnt (d + 1) (l.drop (i + 1) : List (Pay × Tr d × Tr d)) := k
          rw [List.length_drop] at k'
          omega
        have c1 : Hid (Calls Try.prog 118 #[.agg #[.int .i64 p.k, .int .i64 p.v, .int .i64 p.vk, .int .i64 p.va, .int .i64 p.vb, .int .i64 p.h, .slice ta (ln d T1) tc, .slice ea (ln d T2) ec], .int .i64 z] wr fun e w' => e = .returned (.int .i64 (szR z (cnt d T1 + cnt d T2))) ∧ Below wr.heap.size wr w') := szStep_of p ta ea (ln d T1) tc (ln d T2) ec (cnt d T1) (cnt d T2) z wr hz0 (by omega) (fun wx l' hwx a b => IH.out T1 _ l' wx ((r1.below hbr).below hwx) a b) (fun wx l' hwx a b => IH.out T2 _ l' wx ((r2.below hbr).below hwx) a b)
        have HZ0 : Hid (z = left - (l.length : Int) + i - cnt (d + 1) (l.take i : List (Pay × Tr d × Tr d))) := hz
        clear hS r1 r2 hz
        go_wp2_with fail
        have hz := HZ0.out
        go_at_call 118; refine Calls.mono c1.out ?_; rintro e w1 ⟨rfl, hb1⟩
        have B1 : Below w.heap.size w w1 := Below.then hbr hb1 hsz
        clear hbr hb1 c1 k0 k1 k2 k3 k4 k5 k6 k7
        by_cases hm : ((cnt d T1 + cnt d T2 : Nat) : Int) ≤ z
        · rw [szR_pos hm]
          have hn0 : 0 ≤ z - ((cnt d T1 + cnt d T2 : Nat) : Int) := by omega
          have hn1 : ¬ z - ((cnt d T1 + cnt d T2 : Nat) : Int) < 0 := by omega
          have HZ : Hid (z - ((cnt d T1 + cnt d T2 : Nat) : Int) = left - (l.length : Int) + (i + 1 : Nat) - cnt (d + 1) (l.take (i + 1) : List (Pay × Tr d × Tr d))) := (show z - ((cnt d T1 + cnt d T2 : Nat) : Int) = left - (l.length : Int) + (i + 1 : Nat) - cnt (d + 1) (l.take (i + 1) : List (Pay × Tr d × Tr d)) by rw [q1]; omega)
          clear q1 q2 q6 hz
          generalize z - ((cnt d T1 + cnt d T2 : Nat) : Int) = z' at *
          go_wp2
          exact ⟨⟨i + 1, z', by omega, by simp, rfl, B1, HZ.out, hn0⟩, by simp [intOf]; omega⟩
        · rw [szR_neg hm]
          have HE : Hid (szR left (cnt (d + 1) (l : List (Pay × Tr d × Tr d))) = -1) := (show szR left (cnt (d + 1) (l : List (Pay × Tr d × Tr d))) = -1 from szR_neg (by omega))
          go_wp2
          go_ret
          exact ⟨by rw [HE.out]; rfl, B1⟩
      · have : i = l.length := by omega
        subst this
        rw [List.take_length] at hz
        have HE : Hid (szR left (cnt (d + 1) (l : List (Pay × Tr d × Tr d))) = z) := (show szR left (cnt (d + 1) (l : List (Pay × Tr d × Tr d))) = z by rw [szR_pos (by omega)]; omega)
        have HB : Hid (Below w.heap.size w wr) := hbr
        clear hz hbr
        go_wp2
        go_ret
        exact ⟨by rw [HE.out]; rfl, HB.out⟩

theorem szLabelS_any {lv : Value} {ls : List (Int × Int)} {left : Int} {w : World} (hL : LRep w lv ls) (h0 : 0 ≤ left) (h1 : left ≤ 1048576) :
    Calls Try.prog 87 #[lv, .int .i64 left] w fun e w' => e = .returned (.int .i64 (szR left ls.length)) ∧ Below w.heap.size w w' := by
  obtain ⟨la, lc, rfl, hlc, hcm, -⟩ := hL
  have hlm : (ls.length : Int) ≤ 9223372036854775807 := by unfold maxLen at hcm; omega
  have hwz := w64 (left - ls.length) (by omega)
  by_cases hlen : (ls.length : Int) ≤ left
  · rw [szR_pos hlen]
    have hnn : ¬ left - (ls.length : Int) < 0 := by omega
    have hn0 : 0 ≤ left - (ls.length : Int) := by omega
    go_enter Try.func87, Try.ntmps87
    go_wp2
    go_ret
    exact ⟨rfl, Below.refl _ _⟩
  · rw [szR_neg hlen]
    have hlt : left - (ls.length : Int) < 0 := by omega
    go_enter Try.func87, Try.ntmps87
    go_wp2
    go_ret
    exact ⟨rfl, Below.refl _ _⟩

theorem szProg_any {d : Nat} {T : Tr d} {lv sv : Value} {ls : List (Int × Int)} {left : Int} {w : World} (hL : LRep w lv ls) (hR : Rep w d sv T) (h0 : 0 ≤ left) (h1 : left ≤ 1048576) :
    Calls Try.prog 50 #[.agg #[lv, sv], .int .i64 left] w fun e w' => e = .returned (.int .i64 (szR left (ls.length + cnt d T))) ∧ Below w.heap.size w w' := by
  have A : Below w.heap.size w (w.alloc (.cells #[lv, sv] 69)) := (Below.refl _ _).alloc (Nat.le_refl _) _
  have C1 : Hid _ := szLabelS_any (hL.below A) h0 h1
  have HR : Hid (∀ w', Below w.heap.size w w' → Rep w' d sv T) := (show ∀ w', _ from fun w' hb => hR.below hb)
  obtain ⟨la, lc, rfl, -⟩ := hL
  obtain ⟨sa, sc, rfl⟩ := hR.slice
  clear hR
  go_enter Try.func50, Try.ntmps50
  go_wp2_with fail
  go_at_call 87; refine Calls.mono C1.out ?_; rintro e w1 ⟨rfl, hb1⟩
  have B1 : Below w.heap.size w w1 := Below.then A hb1 (by simp)
  have p7 : w1.cell? ⟨w.heap.size, 1, none⟩ = some (.slice sa (ln d T) sc) := cell_later hb1 (by simp)
  have hs1 := B1.size
  clear hb1 A C1
  by_cases hm : (ls.length : Int) ≤ left
  · rw [szR_pos hm]
    have l0 : 0 ≤ left - ls.length := by omega
    have l1 : ¬ (left - ls.length < 0) := by omega
    have C2 : Hid _ := szStepS_any d T _ (left - ls.length) w1 (HR.out w1 B1) l0 (by omega)
    go_wp2_with fail
    go_at_call 88; refine Calls.mono C2.out ?_; rintro e w2 ⟨rfl, hb2⟩
    have B2 : Below w.heap.size w w2 := Below.then B1 hb2 hs1
    clear hb2 p7 C2
    by_cases hm2 : (cnt d T : Int) ≤ left - ls.length
    · rw [szR_pos hm2]
      have l3 : ¬ (left - ls.length - cnt d T < 0) := by omega
      have l2 : 0 ≤ left - ls.length - cnt d T := by omega
      have HE : Hid (left - ls.length - cnt d T = szR left (ls.length + cnt d T)) := (show left - ls.length - cnt d T = szR left (ls.length + cnt d T) by rw [szR_pos (by omega)]; omega)
      go_wp2
      go_ret
      exact ⟨by rw [← HE.out]; rfl, B2⟩
    · rw [szR_neg hm2]
      have HE : Hid (szR left (ls.length + cnt d T) = -1) := (show szR left (ls.length + cnt d T) = -1 from szR_neg (by omega))
      go_wp2
      go_ret
      exact ⟨by rw [HE.out]; rfl, B2⟩
  · rw [szR_neg hm]
    have HE : Hid (szR left (ls.length + cnt d T) = -1) := (show szR left (ls.length + cnt d T) = -1 from szR_neg (by omega))
    go_wp2
    go_ret
    exact ⟨by rw [HE.out]; rfl, B1⟩

end Go.Proofs.Ytpcmhkcahajdgaa
