/- All steps in one row, as the model counts them. -/
import Derived.Test.YthcgdhlemieboaaGreatTkCpy
import Derived.Deep.RegionHeld3
import Derived.Deep.DrawnRows
namespace Go.Proofs.YthcgdhlemieboaaGreat
open Go.RowKit
set_option linter.unusedSimpArgs false
set_option linter.unusedVariables false
attribute [local go_sem] World.cell?_alloc_some

theorem FlatR.one {W : World} : ∀ {fs : List (Σ k, Pay × Tr k × Tr k)} {xs : List Value}, FlatR W fs xs → ∀ u ∈ xs, u.oneCell' = true
  | [], xs, h => by
    have h' : xs = [] := h
    subst h'; simp
  | x :: fs, xs, h => by
    obtain ⟨t, e, ys, rfl, r1, r2, h⟩ := h
    obtain ⟨ta, tc, rfl⟩ := r1.slice
    obtain ⟨ea, ec, rfl⟩ := r2.slice
    intro u hu
    rcases List.mem_append.1 hu with hu | hu
    · exact cells8_one _ _ _ _ _ _ _ u hu
    · exact FlatR.one h u hu
theorem row_some {w : World} {base : Nat} {v : Value} {n : Nat} {xs : List Value} (h : w.ownsRow base 66 8 v n xs) (hv : v ≠ .slice none 0 0) : ∃ g c, v = .slice (some ⟨g, 0, none⟩) n c ∧ base ≤ g ∧ g < w.heap.size := by
  obtain ⟨h0, ⟨h1, _⟩ | ⟨g, cap, cur, hv', hg, hh, r⟩⟩ := id h
  · exact (hv h1).elim
  · exact ⟨g, cap, hv', hg, (World.ownsRow.lt h g (by rw [hv']; rfl)).2⟩

set_option maxHeartbeats 4000000 in
theorem l2All_any (W : World) : ∀ (d : Nat) (T : Tr d) (s : Value) (w : World), Rep W d s T → Below W.heap.size W w → cnt d T ≤ 1048576 →
    Calls Tryz.prog 74 #[s] w fun e w' => ∃ v' xs, e = .returned v' ∧ Below w.heap.size w w' ∧ w'.ownsRow w.heap.size 66 8 v' (cnt d T) xs ∧ FlatR W (flat d T) xs ∧ v' ≠ .slice none 0 0 := by
  intro d
  obtain ⟨i0, hi0, hz0, hz1, hz2⟩ := info_parts infoStep
  induction d with
  | zero =>
    intro T s w h hb hc
    obtain ⟨a, c, rfl⟩ := h
    go_enter Tryz.func74, Tryz.ntmps74
    go_wp2
    refine wp_loop_rounds 1 ?_
    rw [rounds_succ]
    go_wp2
    go_ret
    exact ⟨_, [], rfl, (Below.refl _ _).alloc (Nat.le_refl _) _, World.ownsRow_made w #[] 0 (Nat.le_refl _) (by unfold maxLen; omega) (by simp), rfl, by simp⟩
  | succ d ih =>
    intro (l : List (Pay × Tr d × Tr d)) s w h hbW hcn
    obtain ⟨a, c, rfl, hlc, hcm, hcell⟩ := h
    have hlm : (l.length : Int) ≤ 9223372036854775807 := by unfold maxLen at hcm; omega
    have HC : Hid (∀ i (hi : i < l.length), ∃ (p : Pay) (T1 T2 : Tr d) (b off : Nat) (ta : Option Addr) (tc : Nat) (ea : Option Addr) (ec : Nat), l[i] = (p, T1, T2) ∧ a = some ⟨b, off, none⟩ ∧ StepAt W b (off + i * 8) p (.slice ta (ln d T1) tc) (.slice ea (ln d T2) ec) ∧ Rep W d (.slice ta (ln d T1) tc) T1 ∧ Rep W d (.slice ea (ln d T2) ec) T2) := (show ∀ i (hi : i < l.length), _ by
      intro i hi
      obtain ⟨b, off, t, e, ha, hS, r1, r2⟩ := hcell i hi
      obtain ⟨ta, tc, rfl⟩ := r1.slice
      obtain ⟨ea, ec, rfl⟩ := r2.slice
      exact ⟨_, _, _, b, off, ta, tc, ea, ec, rfl, ha, hS, r1, r2⟩)
    have IH : Hid _ := ih
    have HW : Hid (Below W.heap.size W w) := hbW
    have hWs : W.heap.size ≤ w.heap.size := hbW.size
    clear ih hcell hbW
    go_enter Tryz.func74, Tryz.ntmps74
    go_wp2
    go_loopw [3, 4] (fun o j wr => ∃ (i : Nat) (xs : List Value), i ≤ l.length ∧ j = .int .i64 i ∧ Below w.heap.size w wr ∧ wr.ownsRow w.heap.size 66 8 o (cnt (d + 1) (l.take i : List (Pay × Tr d × Tr d))) xs ∧ FlatR W (flat (d + 1) (l.take i : List (Pay × Tr d × Tr d))) xs ∧ o ≠ .slice none 0 0) (fun _ j _ => l.length - (intOf j).toNat)
    case atStart => exact ⟨0, [], by omega, rfl, (Below.refl _ _).alloc (Nat.le_refl _) _, World.ownsRow_made w #[] 0 (Nat.le_refl _) (by unfold maxLen; omega) (by simp), rfl, by simp⟩
    case round =>
      obtain ⟨i, xs, hi, rfl, hbr, hor, hfl, hnn⟩ := hrel
      have hsz : w.heap.size ≤ wr.heap.size := hbr.size
      by_cases hlt : i < l.length
      · obtain ⟨p, T1, T2, b, off, ta, tc, ea, ec, hx, rfl, hS, r1, r2⟩ := HC.out i hlt
        have BW : Below W.heap.size W wr := Below.then HW.out hbr hWs
        obtain ⟨k0, k1, k2, k3, k4, k5, k6, k7⟩ := hS.on (w' := wr) (fun a v h => cell_later BW h)
        have i0' : (0 : Int) ≤ (i : Int) := by omega
        have i1' : (i : Int) < (l.length : Int) := by omega
        have q1 := cnt_take l i hlt
        have q2 := flat_take l i hlt
        rw [hx] at q1 q2
        dsimp only at q1 q2
        have q4 := cnt_take_le l (i + 1)
        have HQ1 : Hid _ := q1
        have HQ2 : Hid _ := q2
        obtain ⟨g, gc, rfl, hg0, hg1⟩ := row_some hor hnn
        generalize hN : cnt (d + 1) (l.take i : List (Pay × Tr d × Tr d)) = N at *
        have hNb : N + 1 + cnt d T1 + cnt d T2 ≤ 1048576 := by omega
        have HOR : Hid (wr.ownsRow w.heap.size 66 8 (.slice (some ⟨g, 0, none⟩) N gc) N xs) := hor
        have HFL : Hid _ := hfl
        have HBR : Hid (Below w.heap.size w wr) := hbr
        have HS : Hid (StepAt W b (off + i * 8) p (.slice ta (ln d T1) tc) (.slice ea (ln d T2) ec)) := hS
        have R1 : Hid _ := r1
        have R2 : Hid _ := r2
        clear hS hor hfl hbr r1 r2 q1 q2 q4
        go_wp2_with (at_builtin; refine wpList_append_own_at _ rfl _ _ 24 rfl w.heap.size 66 i0 _ 8 96 Tryz.underlying24 hi0 hz0 hz1 hz2 rfl (by decide) _ _ _ rfl (HOR.out.alloc _) ⟨wr.heap.size, 0, none⟩ 1 1 (cells8 p (.slice ta (ln d T1) tc) (.slice ea (ln d T2) ec)) rfl rfl ?c1 ?c2 ?c3 ?c4 ?c5 ?_)
        case c1 => exact cells8_new _ _ _ _ _
        case c2 => exact cells8_one _ _ _ _ _ _ _
        case c3 => unfold maxLen; omega
        case c4 => omega
        case c5 => simp; omega
        intro v1 w1 own1 grow1 hn1 _
        have B1 : Below w.heap.size w w1 := (HBR.out.alloc hsz _).grown grow1 (by simp; omega) (fun j hj => by cases hj; exact hg0)
        have BW1 : Below W.heap.size W w1 := Below.then HW.out B1 hWs
        have nn1 : v1 ≠ .slice none 0 0 := by intro e; have := hn1; simp [e] at this
        obtain ⟨g1, gc1, rfl, hg10, hg11⟩ := row_some own1 nn1
        obtain ⟨_, _, _, _, _, _, m6, _⟩ := HS.out.on (w' := w1) (fun a v h => cell_later BW1 h)
        have C1 : Hid _ := IH.out T1 _ w1 R1.out BW1 (by omega)
        have HO1 : Hid (w1.ownsRow w.heap.size 66 8 (.slice (some ⟨g1, 0, none⟩) (N + 1) gc1) (N + 1) (xs ++ cells8 p (.slice ta (ln d T1) tc) (.slice ea (ln d T2) ec))) := own1
        have s1 : w.heap.size ≤ w1.heap.size := B1.size
        clear own1 grow1 hn1 nn1 k0 k1 k2 k3 k4 k5 k6 k7 BW HOR
        go_wp2_with fail
        go_at_call 74; refine Calls.mono C1.out ?_
        rintro e w2 ⟨v2, x2, rfl, hb2, own2, fl2, nn2⟩
        obtain ⟨g2, gc2, rfl, hg20, hg21⟩ := row_some own2 nn2
        have HO2 := row_below HO1.out hb2
        have B2 : Below w.heap.size w w2 := Below.then B1 hb2 s1
        have s2 : w1.heap.size ≤ w2.heap.size := hb2.size
        have F2 : Hid (FlatR W (flat d T1) x2) := fl2
        have c2' : ∀ j u, x2[j]? = some u → w2.cell? ((⟨g2, 0, none⟩ : Addr).add j) = some u := own2.cells rfl
        have l2' : x2.length = cnt d T1 * 8 := own2.1
        clear own2 fl2 nn2 hb2 B1 C1 m6 BW1
        go_wp2_with (at_builtin; refine wpList_append_own_at _ rfl _ _ 24 rfl w.heap.size 66 i0 _ 8 96 Tryz.underlying24 hi0 hz0 hz1 hz2 rfl (by decide) _ _ _ rfl HO2 ⟨g2, 0, none⟩ (cnt d T1) gc2 x2 rfl l2' c2' (FlatR.one F2.out) ?c3 ?c4 ?c5 ?_)
        case c3 => unfold maxLen; omega
        case c4 => omega
        case c5 => omega
        intro v3 w3 own3 grow3 hn3 _
        have B3 : Below w.heap.size w w3 := B2.grown grow3 (by omega) (fun j hj => by cases hj; exact hg10)
        have BW3 : Below W.heap.size W w3 := Below.then HW.out B3 hWs
        have nn3 : v3 ≠ .slice none 0 0 := by intro e; have := hn3; simp [e] at this
        obtain ⟨g3, gc3, rfl, hg30, hg31⟩ := row_some own3 nn3
        obtain ⟨_, _, _, _, _, _, _, m7⟩ := HS.out.on (w' := w3) (fun a v h => cell_later BW3 h)
        have C3 : Hid _ := IH.out T2 _ w3 R2.out BW3 (by omega)
        have HO3 : Hid (w3.ownsRow w.heap.size 66 8 (.slice (some ⟨g3, 0, none⟩) (N + 1 + cnt d T1) gc3) (N + 1 + cnt d T1) (xs ++ (cells8 p (.slice ta (ln d T1) tc) (.slice ea (ln d T2) ec) ++ x2))) := own3
        have s3 : w.heap.size ≤ w3.heap.size := B3.size
        clear own3 grow3 hn3 nn3 HO2 HO1 c2' l2' B2
        go_wp2_with fail
        go_at_call 74; refine Calls.mono C3.out ?_
        rintro e w4 ⟨v4, x4, rfl, hb4, own4, fl4, nn4⟩
        obtain ⟨g4, gc4, rfl, hg40, hg41⟩ := row_some own4 nn4
        have HO4 := row_below HO3.out hb4
        have B4 : Below w.heap.size w w4 := Below.then B3 hb4 s3
        have F4 : Hid (FlatR W (flat d T2) x4) := fl4
        have c4' : ∀ j u, x4[j]? = some u → w4.cell? ((⟨g4, 0, none⟩ : Addr).add j) = some u := own4.cells rfl
        have l4' : x4.length = cnt d T2 * 8 := own4.1
        have s4 : w3.heap.size ≤ w4.heap.size := hb4.size
        clear own4 fl4 nn4 hb4 B3 C3 m7 BW3
        go_wp2_with (at_builtin; refine wpList_append_own_at _ rfl _ _ 24 rfl w.heap.size 66 i0 _ 8 96 Tryz.underlying24 hi0 hz0 hz1 hz2 rfl (by decide) _ _ _ rfl HO4 ⟨g4, 0, none⟩ (cnt d T2) gc4 x4 rfl l4' c4' (FlatR.one F4.out) ?c3 ?c4 ?c5 ?_)
        case c3 => unfold maxLen; omega
        case c4 => omega
        case c5 => omega
        intro v5 w5 own5 grow5 hn5 _
        have B5 : Below w.heap.size w w5 := B4.grown grow5 (by omega) (fun j hj => by cases hj; exact hg30)
        have nn5 : v5 ≠ .slice none 0 0 := by intro e; have := hn5; simp [e] at this
        have HO5 : Hid (w5.ownsRow w.heap.size 66 8 v5 (N + 1 + cnt d T1 + cnt d T2) (xs ++ cells8 p (.slice ta (ln d T1) tc) (.slice ea (ln d T2) ec) ++ x2 ++ x4)) := (show w5.ownsRow w.heap.size 66 8 v5 (N + 1 + cnt d T1 + cnt d T2) (xs ++ cells8 p (.slice ta (ln d T1) tc) (.slice ea (ln d T2) ec) ++ x2 ++ x4) by simpa only [List.append_assoc] using own5)
        have HNN : Hid _ := nn5
        clear own5 grow5 hn5 HO4 HO3 c4' l4' B4 nn5
        go_wp2
        refine ⟨⟨i + 1, xs ++ cells8 p (.slice ta (ln d T1) tc) (.slice ea (ln d T2) ec) ++ x2 ++ x4, by omega, by simp, B5, ?_, ?_, HNN.out⟩, by simp [intOf]; omega⟩
        · rw [HQ1.out]; exact HO5.out
        · rw [HQ2.out]
          simp only [List.append_assoc]
          exact FlatR.app HFL.out ⟨_, _, _, rfl, R1.out, R2.out, FlatR.app F2.out F4.out⟩
      · have : i = l.length := by omega
        subst this
        rw [List.take_length] at hor hfl
        have HO : Hid _ := hor
        have HFL : Hid _ := hfl
        have HBR : Hid _ := hbr
        have HNN : Hid _ := hnn
        clear hor hfl hbr hnn
        go_wp2
        go_ret
        exact ⟨_, xs, rfl, HBR.out, HO.out, HFL.out, HNN.out⟩

end Go.Proofs.YthcgdhlemieboaaGreat

namespace Go.Proofs.YthcgdhlemieboaaGreat
open Go.RowKit
set_option linter.unusedSimpArgs false
set_option linter.unusedVariables false
attribute [local go_sem ↓] Go.wp_at_zero Go.wp_at_succ
attribute [local go_sem] World.cell?_alloc_some

end Go.Proofs.YthcgdhlemieboaaGreat

namespace Go.Proofs.YthcgdhlemieboaaGreat
open Go.RowKit
set_option linter.unusedSimpArgs false
set_option linter.unusedVariables false
attribute [local go_sem] World.cell?_alloc_some

end Go.Proofs.YthcgdhlemieboaaGreat
