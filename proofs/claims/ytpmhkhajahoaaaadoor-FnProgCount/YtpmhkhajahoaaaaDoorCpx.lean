/- All steps in one row, as the model counts them. -/
import Derived.Test.YtpmhkhajahoaaaaDoorCpy
import Derived.Deep.RegionHeld3
import Derived.Deep.DrawnRows
namespace Go.Proofs.YtpmhkhajahoaaaaDoor
open Go.RowKit
set_option linter.unusedSimpArgs false
set_option linter.unusedVariables false
attribute [local go_sem] World.cell?_alloc_some

theorem FlatR.one {W : World} : ∀ {fs : List (Σ k, Pay × Tr k × Tr k)} {xs : List Value}, FlatR W fs xs → ∀ u ∈ xs, u.oneCell' = true
  | [], xs, h => by
    have h' : xs = [] := h
    subst h'; simp
  | x :: fs, xs, h => by
    obtain ⟨t, e, ys, rfl, r1, r2, h⟩ := h
    obtain ⟨ta, tc, rfl⟩ := r1.slice
    obtain ⟨ea, ec, rfl⟩ := r2.slice
    intro u hu
    rcases List.mem_append.1 hu with hu | hu
    · exact cells8_one _ _ _ _ _ _ _ u hu
    · exact FlatR.one h u hu
theorem row_some {w : World} {base : Nat} {v : Value} {n : Nat} {xs : List Value} (h : w.ownsRow base 43 8 v n xs) (hv : v ≠ .slice none 0 0) : ∃ g c, v = .slice (some ⟨g, 0, none⟩) n c ∧ base ≤ g ∧ g < w.heap.size := by
  obtain ⟨h0, ⟨h1, _⟩ | ⟨g, cap, cur, hv', hg, hh, r⟩⟩ := id h
  · exact (hv h1).elim
  · exact ⟨g, cap, hv', hg, (World.ownsRow.lt h g (by rw [hv']; rfl)).2⟩

set_option maxHeartbeats 4000000 in
theorem l2All_any (W : World) : ∀ (d : Nat) (T : Tr d) (s : Value) (w : World), Rep W d s T → Below W.heap.size W w → cnt d T ≤ 1048576 →
    Calls Tryd.prog 54 #[s] w fun e w' => ∃ v' xs, e = .returned v' ∧ Below w.heap.size w w' ∧ w'.ownsRow w.heap.size 43 8 v' (cnt d T) xs ∧ FlatR W (flat d T) xs ∧ v' ≠ .slice none 0 0 := by
  intro d
  obtain ⟨i0, hi0, hz0, hz1, hz2⟩ := info_parts infoStep
  induction d with
  | zero =>
    intro T s w h hb hc
    obtain ⟨a, c, rfl⟩ := h
    go_enter Tryd.func54, Tryd.ntmps54
    go_wp2
    refine wp_loop_rounds 1 ?_
    rw [rounds_succ]
    go_wp2
    go_ret
    exact ⟨_, [], rfl, (Below.refl _ _).alloc (Nat.le_refl _) _, World.ownsRow_made w #[] 0 (Nat.le_refl _) (by unfold maxLen; omega) (by simp), rfl, by simp⟩
  | succ d ih =>
    intro (l : List (Pay × Tr d × Tr d)) s w h hbW hcn
    obtain ⟨a, c, rfl, hlc, hcm, hcell⟩ := h
    have hlm : (l.length : Int) ≤ 9223372036854775807 := by unfold maxLen at hcm; omega
    have HC : Hid (∀ i (hi : i < l.length), ∃ (p : Pay) (T1 T2 : Tr d) (b off : Nat) (ta : Option Addr) (tc : Nat) (ea : Option Addr) (ec : Nat), l[i] = (p, T1, T2) ∧ a = some ⟨b, off, none⟩ ∧ StepAt W b (off + i * 8) p (.slice ta (ln d T1) tc) (.slice ea (ln d T2) ec) ∧ Rep W d (.slice ta (ln d T1) tc) T1 ∧ Rep W d (.slice ea (ln d T2) ec) T2) := (show ∀ i (hi : i < l.length), _ by
      intro i hi
      obtain ⟨b, off, t, e, ha, hS, r1, r2⟩ := hcell i hi
      obtain ⟨ta, tc, rfl⟩ := r1.slice
      obtain ⟨ea, ec, rfl⟩ := r2.slice
      exact ⟨_, _, _, b, off, ta, tc, ea, ec, rfl, ha, hS, r1, r2⟩)
    have IH : Hid _ := ih
    have HW : Hid (Below W.heap.size W w) := hbW
    have hWs : W.heap.size ≤ w.heap.size := hbW.size
    clear ih hcell hbW
    go_enter Tryd.func54, Tryd.ntmps54
    go_wp2
    go_loopw [3, 4] (fun o j wr => ∃ (i : Nat) (xs : List Value), i ≤ l.length ∧ j = .int .i64 i ∧ Below w.heap.size w wr ∧ wr.ownsRow w.heap.size 43 8 o (cnt (d + 1) (l.take i : List (Pay × Tr d × Tr d))) xs ∧ FlatR W (flat (d + 1) (l.take i : List (Pay × Tr d × Tr d))) xs ∧ o ≠ .slice none 0 0) (fun _ j _ => l.length - (intOf j).toNat)
    case atStart => exact ⟨0, [], by omega, rfl, (Below.refl _ _).alloc (Nat.le_refl _) _, World.ownsRow_made w #[] 0 (Nat.le_refl _) (by unfold maxLen; omega) (by simp), rfl, by simp⟩
    case round =>
      obtain ⟨i, xs, hi, rfl, hbr, hor, hfl, hnn⟩ := hrel
      have hsz : w.heap.size ≤ wr.heap.size := hbr.size
      by_cases hlt : i < l.length
      · obtain ⟨p, T1, T2, b, off, ta, tc, ea, ec, hx, rfl, hS, r1, r2⟩ := HC.out i hlt
        have BW : Below W.heap.size W wr := Below.then HW.out hbr hWs
        obtain ⟨k0, k1, k2, k3, k4, k5, k6, k7⟩ := hS.on (w' := wr) (fun a v h => cell_later BW h)
        have i0' : (0 : Int) ≤ (i : Int) := by omega
        have i1' : (i : Int) < (l.length : Int) := by omega
        have q1 := cnt_take l i hlt
        have q2 := flat_take l i hlt
        rw [hx] at q1 q2
        dsimp only at q1 q2
        have q4 := cnt_take_le l (i + 1)
        have HQ1 : Hid _ := q1
        have HQ2 : Hid _ := q2
        obtain ⟨g, gc, rfl, hg0, hg1⟩ := row_some hor hnn
        generalize hN : cnt (d + 1) (l.take i : List (Pay × Tr d × Tr d)) = N at *
        have hNb : N + 1 + cnt d T1 + cnt d T2 ≤ 1048576 := by omega
        have HOR : Hid (wr.ownsRow w.heap.size 43 8 (.slice (some ⟨g, 0, none⟩) N gc) N xs) := hor
        have HFL : Hid _ := hfl
        have HBR : Hid (Below w.heap.size w wr) := hbr
        have HS : Hid (StepAt W b (off + i * 8) p (.slice ta (ln d T1) tc) (.slice ea (ln d T2) ec)) := hS
        have R1 : Hid _ := r1
        have R2 : Hid _ := r2
        clear hS hor hfl hbr r1 r2 q1 q2 q4
        go_wp2_with (at_builtin; refine wpList_append_own_at _ rfl _ _ 24 rfl w.heap.size 43 i0 _ 8 96 Tryd.underlying24 hi0 hz0 hz1 hz2 rfl (by decide) _ _ _ rfl (HOR.out.alloc _) ⟨wr.heap.size, 0, none⟩ 1 1 (cells8 p (.slice ta (ln d T1) tc) (.slice ea (ln d T2) ec)) rfl rfl ?c1 ?c2 ?c3 ?c4 ?c5 ?_)
        case c1 => exact cells8_new _ _ _ _ _
        case c2 => exact cells8_one _ _ _ _ _ _ _
        case c3 => unfold maxLen; omega
        case c4 => omega
        case c5 => simp; omega
        intro v1 w1 own1 grow1 hn1 _
        have B1 : Below w.heap.size w w1 := (HBR.out.alloc hsz _).grown grow1 (by simp; omega) (fun j hj => by cases hj; exact hg0)
        have BW1 : Below W.heap.size W w1 := Below.then HW.out B1 hWs
        have nn1 : v1 ≠ .slice none 0 0 := by intro e; have := hn1; simp [e] at this
        obtain ⟨g1, gc1, rfl, hg10, hg11⟩ := row_some own1 nn1
        obtain ⟨_, _, _, _, _, _, m6, _⟩ := HS.out.on (w' := w1) (fun a v h => cell_later BW1 h)
        have C1 : Hid _ := IH.out T1 _ w1 R1.out BW1 (by omega)
        have HO1 : Hid (w1.ownsRow w.heap.size 43 8 (.slice (some ⟨g1, 0, none⟩) (N + 1) gc1) (N + 1) (xs ++ cells8 p (.slice ta (ln d T1) tc) (.slice ea (ln d T2) ec))) := own1
        have s1 : w.heap.size ≤ w1.heap.size := B1.size
        clear own1 grow1 hn1 nn1 k0 k1 k2 k3 k4 k5 k6 k7 BW HOR
        go_wp2_with fail
        go_at_call 54; refine Calls.mono C1.out ?_
        rintro e w2 ⟨v2, x2, rfl, hb2, own2, fl2, nn2⟩
        obtain ⟨g2, gc2, rfl, hg20, hg21⟩ := row_some own2 nn2
        have HO2 := row_below HO1.out hb2
        have B2 : Below w.heap.size w w2 := Below.then B1 hb2 s1
        have s2 : w1.heap.size ≤ w2.heap.size := hb2.size
        have F2 : Hid (FlatR W (flat d T1) x2) := fl2
        have c2' : ∀ j u, x2[j]? = some u → w2.cell? ((⟨g2, 0, none⟩ : Addr).add j) = some u := own2.cells rfl
        have l2' : x2.length = cnt d T1 * 8 := own2.1
        clear own2 fl2 nn2 hb2 B1 C1 m6 BW1
        go_wp2_with (at_builtin; refine wpList_append_own_at _ rfl _ _ 24 rfl w.heap.size 43 i0 _ 8 96 Tryd.underlying24 hi0 hz0 hz1 hz2 rfl (by decide) _ _ _ rfl HO2 ⟨g2, 0, none⟩ (cnt d T1) gc2 x2 rfl l2' c2' (FlatR.one F2.out) ?c3 ?c4 ?c5 ?_)
        case c3 => unfold maxLen; omega
        case c4 => omega
        case c5 => omega
        intro v3 w3 own3 grow3 hn3 _
        have B3 : Below w.heap.size w w3 := B2.grown grow3 (by omega) (fun j hj => by cases hj; exact hg10)
        have BW3 : Below W.heap.size W w3 := Below.then HW.out B3 hWs
        have nn3 : v3 ≠ .slice none 0 0 := by intro e; have := hn3; simp [e] at this
        obtain ⟨g3, gc3, rfl, hg30, hg31⟩ := row_some own3 nn3
        obtain ⟨_, _, _, _, _, _, _, m7⟩ := HS.out.on (w' := w3) (fun a v h => cell_later BW3 h)
        have C3 : Hid _ := IH.out T2 _ w3 R2.out BW3 (by omega)
        have HO3 : Hid (w3.ownsRow w.heap.size 43 8 (.slice (some ⟨g3, 0, none⟩) (N + 1 + cnt d T1) gc3) (N + 1 + cnt d T1) (xs ++ (cells8 p (.slice ta (ln d T1) tc) (.slice ea (ln d T2) ec) ++ x2))) := own3
        have s3 : w.heap.size ≤ w3.heap.size := B3.size
        clear own3 grow3 hn3 nn3 HO2 HO1 c2' l2' B2
        go_wp2_with fail
        go_at_call 54; refine Calls.mono C3.out ?_
        rintro e w4 ⟨v4, x4, rfl, hb4, own4, fl4, nn4⟩
        obtain ⟨g4, gc4, rfl, hg40, hg41⟩ := row_some own4 nn4
        have HO4 := row_below HO3.out hb4
        have B4 : Below w.heap.size w w4 := Below.then B3 hb4 s3
        have F4 : Hid (FlatR W (flat d T2) x4) := fl4
        have c4' : ∀ j u, x4[j]? = some u → w4.cell? ((⟨g4, 0, none⟩ : Addr).add j) = some u := own4.cells rfl
        have l4' : x4.length = cnt d T2 * 8 := own4.1
        have s4 : w3.heap.size ≤ w4.heap.size := hb4.size
        clear own4 fl4 nn4 hb4 B3 C3 m7 BW3
        go_wp2_with (at_builtin; refine wpList_append_own_at _ rfl _ _ 24 rfl w.heap.size 43 i0 _ 8 96 Tryd.underlying24 hi0 hz0 hz1 hz2 rfl (by decide) _ _ _ rfl HO4 ⟨g4, 0, none⟩ (cnt d T2) gc4 x4 rfl l4' c4' (FlatR.one F4.out) ?c3 ?c4 ?c5 ?_)
        case c3 => unfold maxLen; omega
        case c4 => omega
        case c5 => omega
        intro v5 w5 own5 grow5 hn5 _
        have B5 : Below w.heap.size w w5 := B4.grown grow5 (by omega) (fun j hj => by cases hj; exact hg30)
        have nn5 : v5 ≠ .slice none 0 0 := by intro e; have := hn5; simp [e] at this
        have HO5 : Hid (w5.ownsRow w.heap.size 43 8 v5 (N + 1 + cnt d T1 + cnt d T2) (xs ++ cells8 p (.slice ta (ln d T1) tc) (.slice ea (ln d T2) ec) ++ x2 ++ x4)) := (show w5.ownsRow w.heap.size 43 8 v5 (N + 1 + cnt d T1 + cnt d T2) (xs ++ cells8 p (.slice ta (ln d T1) tc) (.slice ea (ln d T2) ec) ++ x2 ++ x4) by simpa only [List.append_assoc] using own5)
        have HNN : Hid _ := nn5
        clear own5 grow5 hn5 HO4 HO3 c4' l4' B4 nn5
        go_wp2
        refine ⟨⟨i + 1, xs ++ cells8 p (.slice ta (ln d T1) tc) (.slice ea (ln d T2) ec) ++ x2 ++ x4, by omega, by simp, B5, ?_, ?_, HNN.out⟩, by simp [intOf]; omega⟩
        · rw [HQ1.out]; exact HO5.out
        · rw [HQ2.out]
          simp only [List.append_assoc]
          exact FlatR.app HFL.out ⟨_, _, _, rfl, R1.out, R2.out, FlatR.app F2.out F4.out⟩
      · have : i = l.length := by omega
        subst this
        rw [List.take_length] at hor hfl
        have HO : Hid _ := hor
        have HFL : Hid _ := hfl
        have HBR : Hid _ := hbr
        have HNN : Hid _ := hnn
        clear hor hfl hbr hnn
        go_wp2
        go_ret
        exact ⟨_, xs, rfl, HBR.out, HO.out, HFL.out, HNN.out⟩

end Go.Proofs.YtpmhkhajahoaaaaDoor

namespace Go.Proofs.YtpmhkhajahoaaaaDoor
open Go.RowKit
set_option linter.unusedSimpArgs false
set_option linter.unusedVariables false
attribute [local go_sem ↓] Go.wp_at_zero Go.wp_at_succ
attribute [local go_sem] World.cell?_alloc_some

set_option maxHeartbeats 4000000 in
theorem copyStep_of (k : Nat) (T1 T2 : Tr k) (p : Pay) (ta ea : Option Addr) (lt tc le ec : Nat) (w : World)
    (c1 : ∀ wx, Below w.heap.size w wx → Cp 87 k T1 wx (.slice ta lt tc)) (c2 : ∀ wx, Below w.heap.size w wx → Cp 87 k T2 wx (.slice ea le ec)) :
    Calls Tryd.prog 62 #[.agg #[.int .i64 p.k, .int .i64 p.v, .int .i64 p.vk, .int .i64 p.va, .int .i64 p.vb, .int .i64 p.h, .slice ta lt tc, .slice ea le ec]] w
      fun e w' => ∃ t' e' b1 b2, e = .returned (.agg #[.int .i64 p.k, .int .i64 p.v, .int .i64 p.vk, .int .i64 p.va, .int .i64 p.vb, .int .i64 p.h, t', e']) ∧ Below w.heap.size w w' ∧ Own w' k t' T1 b1 ∧ Own w' k e' T2 b2 ∧ (∀ b ∈ b1 ++ b2, w.heap.size ≤ b ∧ b < w'.heap.size) ∧ (b1 ++ b2).Nodup := by
  have C1 : Hid _ := c1
  have C2 : Hid _ := c2
  clear c1 c2
  go_enter Tryd.func62, Tryd.ntmps62
  go_wp2_with fail
  have A1 := C8.new w (.int .i64 p.k) (.int .i64 p.v) (.int .i64 p.vk) (.int .i64 p.va) (.int .i64 p.vb) (.int .i64 p.h) (.slice ta lt tc) (.slice ea le ec) 43
  have A2 := C8.new (w.alloc (.cells #[.int .i64 p.k, .int .i64 p.v, .int .i64 p.vk, .int .i64 p.va, .int .i64 p.vb, .int .i64 p.h, .slice ta lt tc, .slice ea le ec] 43)) (.int .i64 0) (.int .i64 0) (.int .i64 0) (.int .i64 0) (.int .i64 0) (.int .i64 0) (.slice none 0 0) (.slice none 0 0) 43
  replace A1 := (A1.below ((Below.refl _ _).alloc (Nat.le_refl _) (.cells #[.int .i64 0, .int .i64 0, .int .i64 0, .int .i64 0, .int .i64 0, .int .i64 0, .slice none 0 0, .slice none 0 0] 43))).below ((Below.refl _ _).drew)
  replace A2 := A2.below ((Below.refl _ _).drew)
  rw [show (w.alloc (.cells #[.int .i64 p.k, .int .i64 p.v, .int .i64 p.vk, .int .i64 p.va, .int .i64 p.vb, .int .i64 p.h, .slice ta lt tc, .slice ea le ec] 43)).heap.size = w.heap.size + 1 by simp] at A2
  have B0 : Below w.heap.size w ((w.alloc (.cells #[.int .i64 p.k, .int .i64 p.v, .int .i64 p.vk, .int .i64 p.va, .int .i64 p.vb, .int .i64 p.h, .slice ta lt tc, .slice ea le ec] 43)).alloc (.cells #[.int .i64 0, .int .i64 0, .int .i64 0, .int .i64 0, .int .i64 0, .int .i64 0, .slice none 0 0, .slice none 0 0] 43)).drew := (((Below.refl _ _).alloc (Nat.le_refl _) _).alloc (by simp) _).drew
  have s0 : w.heap.size + 1 < ((w.alloc (.cells #[.int .i64 p.k, .int .i64 p.v, .int .i64 p.vk, .int .i64 p.va, .int .i64 p.vb, .int .i64 p.h, .slice ta lt tc, .slice ea le ec] 43)).alloc (.cells #[.int .i64 0, .int .i64 0, .int .i64 0, .int .i64 0, .int .i64 0, .int .i64 0, .slice none 0 0, .slice none 0 0] 43)).drew.heap.size := by simp
  have HA1 : Hid (C8 ((w.alloc (.cells #[.int .i64 p.k, .int .i64 p.v, .int .i64 p.vk, .int .i64 p.va, .int .i64 p.vb, .int .i64 p.h, .slice ta lt tc, .slice ea le ec] 43)).alloc (.cells #[.int .i64 0, .int .i64 0, .int .i64 0, .int .i64 0, .int .i64 0, .int .i64 0, .slice none 0 0, .slice none 0 0] 43)).drew w.heap.size (.int .i64 p.k) (.int .i64 p.v) (.int .i64 p.vk) (.int .i64 p.va) (.int .i64 p.vb) (.int .i64 p.h) (.slice ta lt tc) (.slice ea le ec)) := A1
  have HA2 : Hid (C8 ((w.alloc (.cells #[.int .i64 p.k, .int .i64 p.v, .int .i64 p.vk, .int .i64 p.va, .int .i64 p.vb, .int .i64 p.h, .slice ta lt tc, .slice ea le ec] 43)).alloc (.cells #[.int .i64 0, .int .i64 0, .int .i64 0, .int .i64 0, .int .i64 0, .int .i64 0, .slice none 0 0, .slice none 0 0] 43)).drew (w.heap.size + 1) (.int .i64 0) (.int .i64 0) (.int .i64 0) (.int .i64 0) (.int .i64 0) (.int .i64 0) (.slice none 0 0) (.slice none 0 0)) := A2
  have HB0 : Hid (Below w.heap.size w ((w.alloc (.cells #[.int .i64 p.k, .int .i64 p.v, .int .i64 p.vk, .int .i64 p.va, .int .i64 p.vb, .int .i64 p.h, .slice ta lt tc, .slice ea le ec] 43)).alloc (.cells #[.int .i64 0, .int .i64 0, .int .i64 0, .int .i64 0, .int .i64 0, .int .i64 0, .slice none 0 0, .slice none 0 0] 43)).drew) := B0
  obtain ⟨⟨x0, x1, x2, x3, x4, x5, x6, x7⟩, y0, y1, y2, y3, y4, y5, y6, y7⟩ := A1
  clear A2 B0
  refine wp_region_held (S := fun _ => True) (by kernel_rfl) ?_
  change wpAnyH _ _ _ _ _ _ _ _ (World.drew _)
  refine' wpAnyH_take (i := 0) (v := _) rfl (by kernel_rfl) (by kernel_rfl) (by kernel_rfl) (fun _ _ _ h => h) (Or.inl ⟨by rfl, ?hy1001⟩) trivial ?hn1001
  case hy1001 => (intro wz hSw; go_simp; first | done | with_reducible rfl)
  try simp only [List.getElem_toArray, List.getElem_cons_zero, List.getElem_cons_succ, Act.put, List.setIfInBounds_toArray, List.set_cons_zero, List.set_cons_succ]
  refine' wpAnyH_take (i := 3) (v := _) rfl (by kernel_rfl) (by kernel_rfl) (by kernel_rfl) (fun _ _ _ h => h) (Or.inl ⟨by rfl, ?hy1002⟩) trivial ?hn1002
  case hy1002 => (intro wz hSw; go_simp; first | done | with_reducible rfl)
  try simp only [List.getElem_toArray, List.getElem_cons_zero, List.getElem_cons_succ, Act.put, List.setIfInBounds_toArray, List.set_cons_zero, List.set_cons_succ]
  refine wpAnyH_ready (rs := [1, 4]) (by kernel_rfl) (by simp) ?_
  refine AllReadyH.cons rfl (fun K hK => ?_) (AllReadyH.cons rfl (fun K hK => ?_) AllReadyH.nil)
  · go_simp
    refine hK.out _ _ trivial (fun _ => ?_)
    clear hK K
    refine wpAnyH_ready (rs := [2, 4]) (by kernel_rfl) (by simp) ?_
    refine AllReadyH.cons rfl (fun K hK => ?_) (AllReadyH.cons rfl (fun K hK => ?_) AllReadyH.nil)
    · go_simp
      refine Calls.mono (C1.out _ HB0.out) ?_
      rintro e w1 ⟨t', b1, rfl, hb1, o1, r1, n1⟩
      obtain ⟨ta', tc', rfl⟩ := o1.slice
      have X1 := C8.below HA1.out hb1
      have HX1 : Hid (C8 w1 w.heap.size (.int .i64 p.k) (.int .i64 p.v) (.int .i64 p.vk) (.int .i64 p.va) (.int .i64 p.vb) (.int .i64 p.h) (.slice ta lt tc) (.slice ea le ec)) := X1
      have HX2 : Hid (C8 w1 (w.heap.size + 1) (.int .i64 0) (.int .i64 0) (.int .i64 0) (.int .i64 0) (.int .i64 0) (.int .i64 0) (.slice none 0 0) (.slice none 0 0)) := C8.below HA2.out hb1
      have hs1 : w.heap.size + 1 < w1.heap.size := Nat.lt_of_lt_of_le s0 hb1.size
      have HB1 : Hid (Below w.heap.size w w1) := Below.then HB0.out hb1 (by omega)
      have HO1 : Hid (Own w1 k (.slice ta' (ln k T1) tc') T1 b1) := o1
      have HR1 : Hid (∀ b ∈ b1, w.heap.size + 1 < b ∧ b < w1.heap.size) := (show ∀ b ∈ b1, _ from fun b hb => by have := r1 b hb; omega)
      have HN1 : Hid _ := n1
      clear x0 x1 x2 x3 x4 x5 x6 x7 y0 y1 y2 y3 y4 y5 y6 y7
      obtain ⟨⟨x0, x1, x2, x3, x4, x5, x6, x7⟩, y0, y1, y2, y3, y4, y5, y6, y7⟩ := X1
      clear hb1 o1 r1 n1
      refine hK.out _ _ trivial (fun _ => ?_)
      clear hK K
      refine wpAnyH_ready (rs := [4]) (by kernel_rfl) (by simp) ?_
      refine AllReadyH.cons rfl (fun K hK => ?_) AllReadyH.nil
      go_simp
      refine hK.out _ _ trivial (fun _ => ?_)
      clear hK K
      refine' wpAnyH_take (i := 6) (v := _) rfl (by kernel_rfl) (by kernel_rfl) (by kernel_rfl) (fun _ _ _ h => h) (Or.inl ⟨by rfl, ?hy1003⟩) trivial ?hn1003
      case hy1003 => (intro wz hSw; go_simp; first | done | with_reducible rfl)
      try simp only [List.getElem_toArray, List.getElem_cons_zero, List.getElem_cons_succ, Act.put, List.setIfInBounds_toArray, List.set_cons_zero, List.set_cons_succ]
      refine wpAnyH_ready (rs := [5]) (by kernel_rfl) (by simp) ?_
      refine AllReadyH.cons rfl (fun K hK => ?_) AllReadyH.nil
      go_simp
      refine Calls.mono (C2.out _ HB1.out) ?_
      rintro e w2 ⟨e', b2, rfl, hb2, o2, r2, n2⟩
      obtain ⟨ea', ec', rfl⟩ := o2.slice
      have X1 := C8.below HX1.out hb2
      have HY1 : Hid (C8 w2 w.heap.size (.int .i64 p.k) (.int .i64 p.v) (.int .i64 p.vk) (.int .i64 p.va) (.int .i64 p.vb) (.int .i64 p.h) (.slice ta lt tc) (.slice ea le ec)) := X1
      have HY2 : Hid (C8 w2 (w.heap.size + 1) (.int .i64 0) (.int .i64 0) (.int .i64 0) (.int .i64 0) (.int .i64 0) (.int .i64 0) (.slice none 0 0) (.slice none 0 0)) := C8.below HX2.out hb2
      have HB2 : Hid (Below w1.heap.size w1 w2) := hb2
      have HO2 : Hid (Own w2 k (.slice ea' (ln k T2) ec') T2 b2) := o2
      have HR2 : Hid (∀ b ∈ b2, w1.heap.size ≤ b ∧ b < w2.heap.size) := r2
      have HN2 : Hid _ := n2
      have hs2 : w1.heap.size ≤ w2.heap.size := hb2.size
      clear x0 x1 x2 x3 x4 x5 x6 x7 y0 y1 y2 y3 y4 y5 y6 y7
      obtain ⟨⟨x0, x1, x2, x3, x4, x5, x6, x7⟩, y0, y1, y2, y3, y4, y5, y6, y7⟩ := X1
      clear hb2 o2 r2 n2
      refine hK.out _ _ trivial (fun _ => ?_)
      clear hK K
      refine wpAnyH_ready (rs := [7]) (by kernel_rfl) (by simp) ?_
      refine AllReadyH.cons rfl (fun K hK => ?_) AllReadyH.nil
      go_simp
      refine hK.out _ _ trivial (fun _ => ?_)
      clear hK K
      refine' wpAnyH_take (i := 8) (v := _) rfl (by kernel_rfl) (by kernel_rfl) (by kernel_rfl) (fun _ _ _ h => h) (Or.inl ⟨by rfl, ?hy1004⟩) trivial ?hn1004
      case hy1004 => (intro wz hSw; go_simp; first | done | with_reducible rfl)
      try simp only [List.getElem_toArray, List.getElem_cons_zero, List.getElem_cons_succ, Act.put, List.setIfInBounds_toArray, List.set_cons_zero, List.set_cons_succ]
      refine wpAnyH_ready (rs := [9]) (by kernel_rfl) (by simp) ?_
      refine AllReadyH.cons rfl (fun K hK => ?_) AllReadyH.nil
      go_simp
      refine hK.out _ _ trivial (fun _ => ?_)
      clear hK K
      refine wpAnyH_done (by kernel_rfl) ?_ _
      clear x0 x1 x2 x3 x4 x5 x6 x7 y0 y1 y2 y3 y4 y5 y6 y7
      have Y1 := (HY1.out.set6 (.slice ta' (ln k T1) tc')).set7 (.slice ea' (ln k T2) ec')
      have Y2 := (HY2.out.far (a := ⟨w.heap.size, 6, none⟩) (by show w.heap.size ≠ w.heap.size + 1; omega) (.slice ta' (ln k T1) tc')).far (a := ⟨w.heap.size, 7, none⟩) (by show w.heap.size ≠ w.heap.size + 1; omega) (.slice ea' (ln k T2) ec')
      obtain ⟨⟨x0, x1, x2, x3, x4, x5, x6, x7⟩, y0, y1, y2, y3, y4, y5, y6, y7⟩ := Y1
      obtain ⟨⟨z0, z1, z2, z3, z4, z5, z6, z7⟩, u0, u1, u2, u3, u4, u5, u6, u7⟩ := Y2
      go_wp2
      have B2 : Below w.heap.size w w2 := Below.then HB1.out HB2.out (by omega)
      have AF := ((((((((((HY2.out.far (a := ⟨w.heap.size, 6, none⟩) (by show w.heap.size ≠ w.heap.size + 1; omega) (.slice ta' (ln k T1) tc')).far (a := ⟨w.heap.size, 7, none⟩) (by show w.heap.size ≠ w.heap.size + 1; omega) (.slice ea' (ln k T2) ec')).set0 (.int .i64 p.k)).set1 (.int .i64 p.v)).set2 (.int .i64 p.vk)).set3 (.int .i64 p.va)).set4 (.int .i64 p.vb)).set5 (.int .i64 p.h)).set6 (.slice ta' (ln k T1) tc')).set7 (.slice ea' (ln k T2) ec'))
      have BF := ((((((((((B2.setCell (p := ⟨w.heap.size, 6, none⟩) (Nat.le_refl _) (.slice ta' (ln k T1) tc')).setCell (p := ⟨w.heap.size, 7, none⟩) (Nat.le_refl _) (.slice ea' (ln k T2) ec')).setCell (p := ⟨w.heap.size + 1, 0, none⟩) (by show w.heap.size ≤ w.heap.size + 1; omega) (.int .i64 p.k)).setCell (p := ⟨w.heap.size + 1, 1, none⟩) (by show w.heap.size ≤ w.heap.size + 1; omega) (.int .i64 p.v)).setCell (p := ⟨w.heap.size + 1, 2, none⟩) (by show w.heap.size ≤ w.heap.size + 1; omega) (.int .i64 p.vk)).setCell (p := ⟨w.heap.size + 1, 3, none⟩) (by show w.heap.size ≤ w.heap.size + 1; omega) (.int .i64 p.va)).setCell (p := ⟨w.heap.size + 1, 4, none⟩) (by show w.heap.size ≤ w.heap.size + 1; omega) (.int .i64 p.vb)).setCell (p := ⟨w.heap.size + 1, 5, none⟩) (by show w.heap.size ≤ w.heap.size + 1; omega) (.int .i64 p.h)).setCell (p := ⟨w.heap.size + 1, 6, none⟩) (by show w.heap.size ≤ w.heap.size + 1; omega) (.slice ta' (ln k T1) tc')).setCell (p := ⟨w.heap.size + 1, 7, none⟩) (by show w.heap.size ≤ w.heap.size + 1; omega) (.slice ea' (ln k T2) ec'))
      have hh : ∀ b, b ≠ w.heap.size + 1 → b ≠ w.heap.size → ((((((((((w2.setCell ⟨w.heap.size, 6, none⟩ (.slice ta' (ln k T1) tc')).setCell ⟨w.heap.size, 7, none⟩ (.slice ea' (ln k T2) ec')).setCell ⟨w.heap.size + 1, 0, none⟩ (.int .i64 p.k)).setCell ⟨w.heap.size + 1, 1, none⟩ (.int .i64 p.v)).setCell ⟨w.heap.size + 1, 2, none⟩ (.int .i64 p.vk)).setCell ⟨w.heap.size + 1, 3, none⟩ (.int .i64 p.va)).setCell ⟨w.heap.size + 1, 4, none⟩ (.int .i64 p.vb)).setCell ⟨w.heap.size + 1, 5, none⟩ (.int .i64 p.h)).setCell ⟨w.heap.size + 1, 6, none⟩ (.slice ta' (ln k T1) tc')).setCell ⟨w.heap.size + 1, 7, none⟩ (.slice ea' (ln k T2) ec')).heap[b]? = w2.heap[b]? := fun b h1 h2 => by
        rw [Below.heap_setCell _ _ _ _ h1, Below.heap_setCell _ _ _ _ h1, Below.heap_setCell _ _ _ _ h1, Below.heap_setCell _ _ _ _ h1, Below.heap_setCell _ _ _ _ h1, Below.heap_setCell _ _ _ _ h1, Below.heap_setCell _ _ _ _ h1, Below.heap_setCell _ _ _ _ h1, Below.heap_setCell _ _ _ _ h2, Below.heap_setCell _ _ _ _ h2]
      have sF : ((((((((((w2.setCell ⟨w.heap.size, 6, none⟩ (.slice ta' (ln k T1) tc')).setCell ⟨w.heap.size, 7, none⟩ (.slice ea' (ln k T2) ec')).setCell ⟨w.heap.size + 1, 0, none⟩ (.int .i64 p.k)).setCell ⟨w.heap.size + 1, 1, none⟩ (.int .i64 p.v)).setCell ⟨w.heap.size + 1, 2, none⟩ (.int .i64 p.vk)).setCell ⟨w.heap.size + 1, 3, none⟩ (.int .i64 p.va)).setCell ⟨w.heap.size + 1, 4, none⟩ (.int .i64 p.vb)).setCell ⟨w.heap.size + 1, 5, none⟩ (.int .i64 p.h)).setCell ⟨w.heap.size + 1, 6, none⟩ (.slice ta' (ln k T1) tc')).setCell ⟨w.heap.size + 1, 7, none⟩ (.slice ea' (ln k T2) ec')).heap.size = w2.heap.size := by simp [World.setCell]
      generalize ((((((((((w2.setCell ⟨w.heap.size, 6, none⟩ (.slice ta' (ln k T1) tc')).setCell ⟨w.heap.size, 7, none⟩ (.slice ea' (ln k T2) ec')).setCell ⟨w.heap.size + 1, 0, none⟩ (.int .i64 p.k)).setCell ⟨w.heap.size + 1, 1, none⟩ (.int .i64 p.v)).setCell ⟨w.heap.size + 1, 2, none⟩ (.int .i64 p.vk)).setCell ⟨w.heap.size + 1, 3, none⟩ (.int .i64 p.va)).setCell ⟨w.heap.size + 1, 4, none⟩ (.int .i64 p.vb)).setCell ⟨w.heap.size + 1, 5, none⟩ (.int .i64 p.h)).setCell ⟨w.heap.size + 1, 6, none⟩ (.slice ta' (ln k T1) tc')).setCell ⟨w.heap.size + 1, 7, none⟩ (.slice ea' (ln k T2) ec')) = wf at *
      have r1 : ∀ b ∈ b1, w.heap.size + 1 < b ∧ b < w1.heap.size := HR1.out
      have r2 : ∀ b ∈ b2, w1.heap.size ≤ b ∧ b < w2.heap.size := HR2.out
      obtain ⟨⟨c0, c1, c2, c3, c4, c5, c6, c7⟩, _⟩ := AF
      refine bodyPost_ret (v := .agg #[.int .i64 p.k, .int .i64 p.v, .int .i64 p.vk, .int .i64 p.va, .int .i64 p.vb, .int .i64 p.h, .slice ta' (ln k T1) tc', .slice ea' (ln k T2) ec']) (by simp [results, Tryd.results62, go_sem, c0, c1, c2, c3, c4, c5, c6, c7]) rfl ⟨_, _, b1, b2, rfl, BF, ?_, ?_, ?_, ?_⟩
      · exact Own.frame (fun b hb => hh b (by have := r1 b hb; omega) (by have := r1 b hb; omega)) (Own.below HO1.out HB2.out (fun b hb => (r1 b hb).2))
      · exact Own.frame (fun b hb => hh b (by have := r2 b hb; omega) (by have := r2 b hb; omega)) HO2.out
      · intro b hb
        rcases List.mem_append.1 hb with hb | hb
        · have := r1 b hb; omega
        · have := r2 b hb; omega
      · refine List.nodup_append.2 ⟨HN1.out, HN2.out, ?_⟩
        intro a ha b hb
        have := r1 a ha
        have := r2 b hb
        omega
    · go_simp
      refine hK.out _ _ trivial (fun _ => ?_)
      clear hK K
      refine wpAnyH_ready (rs := [2]) (by kernel_rfl) (by simp) ?_
      refine AllReadyH.cons rfl (fun K hK => ?_) AllReadyH.nil
      go_simp
      refine Calls.mono (C1.out _ HB0.out) ?_
      rintro e w1 ⟨t', b1, rfl, hb1, o1, r1, n1⟩
      obtain ⟨ta', tc', rfl⟩ := o1.slice
      have X1 := C8.below HA1.out hb1
      have HX1 : Hid (C8 w1 w.heap.size (.int .i64 p.k) (.int .i64 p.v) (.int .i64 p.vk) (.int .i64 p.va) (.int .i64 p.vb) (.int .i64 p.h) (.slice ta lt tc) (.slice ea le ec)) := X1
      have HX2 : Hid (C8 w1 (w.heap.size + 1) (.int .i64 0) (.int .i64 0) (.int .i64 0) (.int .i64 0) (.int .i64 0) (.int .i64 0) (.slice none 0 0) (.slice none 0 0)) := C8.below HA2.out hb1
      have hs1 : w.heap.size + 1 < w1.heap.size := Nat.lt_of_lt_of_le s0 hb1.size
      have HB1 : Hid (Below w.heap.size w w1) := Below.then HB0.out hb1 (by omega)
      have HO1 : Hid (Own w1 k (.slice ta' (ln k T1) tc') T1 b1) := o1
      have HR1 : Hid (∀ b ∈ b1, w.heap.size + 1 < b ∧ b < w1.heap.size) := (show ∀ b ∈ b1, _ from fun b hb => by have := r1 b hb; omega)
      have HN1 : Hid _ := n1
      clear x0 x1 x2 x3 x4 x5 x6 x7 y0 y1 y2 y3 y4 y5 y6 y7
      obtain ⟨⟨x0, x1, x2, x3, x4, x5, x6, x7⟩, y0, y1, y2, y3, y4, y5, y6, y7⟩ := X1
      clear hb1 o1 r1 n1
      refine hK.out _ _ trivial (fun _ => ?_)
      clear hK K
      refine' wpAnyH_take (i := 6) (v := _) rfl (by kernel_rfl) (by kernel_rfl) (by kernel_rfl) (fun _ _ _ h => h) (Or.inl ⟨by rfl, ?hy1005⟩) trivial ?hn1005
      case hy1005 => (intro wz hSw; go_simp; first | done | with_reducible rfl)
      try simp only [List.getElem_toArray, List.getElem_cons_zero, List.getElem_cons_succ, Act.put, List.setIfInBounds_toArray, List.set_cons_zero, List.set_cons_succ]
      refine wpAnyH_ready (rs := [5]) (by kernel_rfl) (by simp) ?_
      refine AllReadyH.cons rfl (fun K hK => ?_) AllReadyH.nil
      go_simp
      refine Calls.mono (C2.out _ HB1.out) ?_
      rintro e w2 ⟨e', b2, rfl, hb2, o2, r2, n2⟩
      obtain ⟨ea', ec', rfl⟩ := o2.slice
      have X1 := C8.below HX1.out hb2
      have HY1 : Hid (C8 w2 w.heap.size (.int .i64 p.k) (.int .i64 p.v) (.int .i64 p.vk) (.int .i64 p.va) (.int .i64 p.vb) (.int .i64 p.h) (.slice ta lt tc) (.slice ea le ec)) := X1
      have HY2 : Hid (C8 w2 (w.heap.size + 1) (.int .i64 0) (.int .i64 0) (.int .i64 0) (.int .i64 0) (.int .i64 0) (.int .i64 0) (.slice none 0 0) (.slice none 0 0)) := C8.below HX2.out hb2
      have HB2 : Hid (Below w1.heap.size w1 w2) := hb2
      have HO2 : Hid (Own w2 k (.slice ea' (ln k T2) ec') T2 b2) := o2
      have HR2 : Hid (∀ b ∈ b2, w1.heap.size ≤ b ∧ b < w2.heap.size) := r2
      have HN2 : Hid _ := n2
      have hs2 : w1.heap.size ≤ w2.heap.size := hb2.size
      clear x0 x1 x2 x3 x4 x5 x6 x7 y0 y1 y2 y3 y4 y5 y6 y7
      obtain ⟨⟨x0, x1, x2, x3, x4, x5, x6, x7⟩, y0, y1, y2, y3, y4, y5, y6, y7⟩ := X1
      clear hb2 o2 r2 n2
      refine hK.out _ _ trivial (fun _ => ?_)
      clear hK K
      refine wpAnyH_ready (rs := [7]) (by kernel_rfl) (by simp) ?_
      refine AllReadyH.cons rfl (fun K hK => ?_) AllReadyH.nil
      go_simp
      refine hK.out _ _ trivial (fun _ => ?_)
      clear hK K
      refine' wpAnyH_take (i := 8) (v := _) rfl (by kernel_rfl) (by kernel_rfl) (by kernel_rfl) (fun _ _ _ h => h) (Or.inl ⟨by rfl, ?hy1006⟩) trivial ?hn1006
      case hy1006 => (intro wz hSw; go_simp; first | done | with_reducible rfl)
      try simp only [List.getElem_toArray, List.getElem_cons_zero, List.getElem_cons_succ, Act.put, List.setIfInBounds_toArray, List.set_cons_zero, List.set_cons_succ]
      refine wpAnyH_ready (rs := [9]) (by kernel_rfl) (by simp) ?_
      refine AllReadyH.cons rfl (fun K hK => ?_) AllReadyH.nil
      go_simp
      refine hK.out _ _ trivial (fun _ => ?_)
      clear hK K
      refine wpAnyH_done (by kernel_rfl) ?_ _
      clear x0 x1 x2 x3 x4 x5 x6 x7 y0 y1 y2 y3 y4 y5 y6 y7
      have Y1 := (HY1.out.set6 (.slice ta' (ln k T1) tc')).set7 (.slice ea' (ln k T2) ec')
      have Y2 := (HY2.out.far (a := ⟨w.heap.size, 6, none⟩) (by show w.heap.size ≠ w.heap.size + 1; omega) (.slice ta' (ln k T1) tc')).far (a := ⟨w.heap.size, 7, none⟩) (by show w.heap.size ≠ w.heap.size + 1; omega) (.slice ea' (ln k T2) ec')
      obtain ⟨⟨x0, x1, x2, x3, x4, x5, x6, x7⟩, y0, y1, y2, y3, y4, y5, y6, y7⟩ := Y1
      obtain ⟨⟨z0, z1, z2, z3, z4, z5, z6, z7⟩, u0, u1, u2, u3, u4, u5, u6, u7⟩ := Y2
      go_wp2
      have B2 : Below w.heap.size w w2 := Below.then HB1.out HB2.out (by omega)
      have AF := ((((((((((HY2.out.far (a := ⟨w.heap.size, 6, none⟩) (by show w.heap.size ≠ w.heap.size + 1; omega) (.slice ta' (ln k T1) tc')).far (a := ⟨w.heap.size, 7, none⟩) (by show w.heap.size ≠ w.heap.size + 1; omega) (.slice ea' (ln k T2) ec')).set0 (.int .i64 p.k)).set1 (.int .i64 p.v)).set2 (.int .i64 p.vk)).set3 (.int .i64 p.va)).set4 (.int .i64 p.vb)).set5 (.int .i64 p.h)).set6 (.slice ta' (ln k T1) tc')).set7 (.slice ea' (ln k T2) ec'))
      have BF := ((((((((((B2.setCell (p := ⟨w.heap.size, 6, none⟩) (Nat.le_refl _) (.slice ta' (ln k T1) tc')).setCell (p := ⟨w.heap.size, 7, none⟩) (Nat.le_refl _) (.slice ea' (ln k T2) ec')).setCell (p := ⟨w.heap.size + 1, 0, none⟩) (by show w.heap.size ≤ w.heap.size + 1; omega) (.int .i64 p.k)).setCell (p := ⟨w.heap.size + 1, 1, none⟩) (by show w.heap.size ≤ w.heap.size + 1; omega) (.int .i64 p.v)).setCell (p := ⟨w.heap.size + 1, 2, none⟩) (by show w.heap.size ≤ w.heap.size + 1; omega) (.int .i64 p.vk)).setCell (p := ⟨w.heap.size + 1, 3, none⟩) (by show w.heap.size ≤ w.heap.size + 1; omega) (.int .i64 p.va)).setCell (p := ⟨w.heap.size + 1, 4, none⟩) (by show w.heap.size ≤ w.heap.size + 1; omega) (.int .i64 p.vb)).setCell (p := ⟨w.heap.size + 1, 5, none⟩) (by show w.heap.size ≤ w.heap.size + 1; omega) (.int .i64 p.h)).setCell (p := ⟨w.heap.size + 1, 6, none⟩) (by show w.heap.size ≤ w.heap.size + 1; omega) (.slice ta' (ln k T1) tc')).setCell (p := ⟨w.heap.size + 1, 7, none⟩) (by show w.heap.size ≤ w.heap.size + 1; omega) (.slice ea' (ln k T2) ec'))
      have hh : ∀ b, b ≠ w.heap.size + 1 → b ≠ w.heap.size → ((((((((((w2.setCell ⟨w.heap.size, 6, none⟩ (.slice ta' (ln k T1) tc')).setCell ⟨w.heap.size, 7, none⟩ (.slice ea' (ln k T2) ec')).setCell ⟨w.heap.size + 1, 0, none⟩ (.int .i64 p.k)).setCell ⟨w.heap.size + 1, 1, none⟩ (.int .i64 p.v)).setCell ⟨w.heap.size + 1, 2, none⟩ (.int .i64 p.vk)).setCell ⟨w.heap.size + 1, 3, none⟩ (.int .i64 p.va)).setCell ⟨w.heap.size + 1, 4, none⟩ (.int .i64 p.vb)).setCell ⟨w.heap.size + 1, 5, none⟩ (.int .i64 p.h)).setCell ⟨w.heap.size + 1, 6, none⟩ (.slice ta' (ln k T1) tc')).setCell ⟨w.heap.size + 1, 7, none⟩ (.slice ea' (ln k T2) ec')).heap[b]? = w2.heap[b]? := fun b h1 h2 => by
        rw [Below.heap_setCell _ _ _ _ h1, Below.heap_setCell _ _ _ _ h1, Below.heap_setCell _ _ _ _ h1, Below.heap_setCell _ _ _ _ h1, Below.heap_setCell _ _ _ _ h1, Below.heap_setCell _ _ _ _ h1, Below.heap_setCell _ _ _ _ h1, Below.heap_setCell _ _ _ _ h1, Below.heap_setCell _ _ _ _ h2, Below.heap_setCell _ _ _ _ h2]
      have sF : ((((((((((w2.setCell ⟨w.heap.size, 6, none⟩ (.slice ta' (ln k T1) tc')).setCell ⟨w.heap.size, 7, none⟩ (.slice ea' (ln k T2) ec')).setCell ⟨w.heap.size + 1, 0, none⟩ (.int .i64 p.k)).setCell ⟨w.heap.size + 1, 1, none⟩ (.int .i64 p.v)).setCell ⟨w.heap.size + 1, 2, none⟩ (.int .i64 p.vk)).setCell ⟨w.heap.size + 1, 3, none⟩ (.int .i64 p.va)).setCell ⟨w.heap.size + 1, 4, none⟩ (.int .i64 p.vb)).setCell ⟨w.heap.size + 1, 5, none⟩ (.int .i64 p.h)).setCell ⟨w.heap.size + 1, 6, none⟩ (.slice ta' (ln k T1) tc')).setCell ⟨w.heap.size + 1, 7, none⟩ (.slice ea' (ln k T2) ec')).heap.size = w2.heap.size := by simp [World.setCell]
      generalize ((((((((((w2.setCell ⟨w.heap.size, 6, none⟩ (.slice ta' (ln k T1) tc')).setCell ⟨w.heap.size, 7, none⟩ (.slice ea' (ln k T2) ec')).setCell ⟨w.heap.size + 1, 0, none⟩ (.int .i64 p.k)).setCell ⟨w.heap.size + 1, 1, none⟩ (.int .i64 p.v)).setCell ⟨w.heap.size + 1, 2, none⟩ (.int .i64 p.vk)).setCell ⟨w.heap.size + 1, 3, none⟩ (.int .i64 p.va)).setCell ⟨w.heap.size + 1, 4, none⟩ (.int .i64 p.vb)).setCell ⟨w.heap.size + 1, 5, none⟩ (.int .i64 p.h)).setCell ⟨w.heap.size + 1, 6, none⟩ (.slice ta' (ln k T1) tc')).setCell ⟨w.heap.size + 1, 7, none⟩ (.slice ea' (ln k T2) ec')) = wf at *
      have r1 : ∀ b ∈ b1, w.heap.size + 1 < b ∧ b < w1.heap.size := HR1.out
      have r2 : ∀ b ∈ b2, w1.heap.size ≤ b ∧ b < w2.heap.size := HR2.out
      obtain ⟨⟨c0, c1, c2, c3, c4, c5, c6, c7⟩, _⟩ := AF
      refine bodyPost_ret (v := .agg #[.int .i64 p.k, .int .i64 p.v, .int .i64 p.vk, .int .i64 p.va, .int .i64 p.vb, .int .i64 p.h, .slice ta' (ln k T1) tc', .slice ea' (ln k T2) ec']) (by simp [results, Tryd.results62, go_sem, c0, c1, c2, c3, c4, c5, c6, c7]) rfl ⟨_, _, b1, b2, rfl, BF, ?_, ?_, ?_, ?_⟩
      · exact Own.frame (fun b hb => hh b (by have := r1 b hb; omega) (by have := r1 b hb; omega)) (Own.below HO1.out HB2.out (fun b hb => (r1 b hb).2))
      · exact Own.frame (fun b hb => hh b (by have := r2 b hb; omega) (by have := r2 b hb; omega)) HO2.out
      · intro b hb
        rcases List.mem_append.1 hb with hb | hb
        · have := r1 b hb; omega
        · have := r2 b hb; omega
      · refine List.nodup_append.2 ⟨HN1.out, HN2.out, ?_⟩
        intro a ha b hb
        have := r1 a ha
        have := r2 b hb
        omega
  · go_simp
    refine hK.out _ _ trivial (fun _ => ?_)
    clear hK K
    refine wpAnyH_ready (rs := [1]) (by kernel_rfl) (by simp) ?_
    refine AllReadyH.cons rfl (fun K hK => ?_) AllReadyH.nil
    go_simp
    refine hK.out _ _ trivial (fun _ => ?_)
    clear hK K
    refine wpAnyH_ready (rs := [2]) (by kernel_rfl) (by simp) ?_
    refine AllReadyH.cons rfl (fun K hK => ?_) AllReadyH.nil
    go_simp
    refine Calls.mono (C1.out _ HB0.out) ?_
    rintro e w1 ⟨t', b1, rfl, hb1, o1, r1, n1⟩
    obtain ⟨ta', tc', rfl⟩ := o1.slice
    have X1 := C8.below HA1.out hb1
    have HX1 : Hid (C8 w1 w.heap.size (.int .i64 p.k) (.int .i64 p.v) (.int .i64 p.vk) (.int .i64 p.va) (.int .i64 p.vb) (.int .i64 p.h) (.slice ta lt tc) (.slice ea le ec)) := X1
    have HX2 : Hid (C8 w1 (w.heap.size + 1) (.int .i64 0) (.int .i64 0) (.int .i64 0) (.int .i64 0) (.int .i64 0) (.int .i64 0) (.slice none 0 0) (.slice none 0 0)) := C8.below HA2.out hb1
    have hs1 : w.heap.size + 1 < w1.heap.size := Nat.lt_of_lt_of_le s0 hb1.size
    have HB1 : Hid (Below w.heap.size w w1) := Below.then HB0.out hb1 (by omega)
    have HO1 : Hid (Own w1 k (.slice ta' (ln k T1) tc') T1 b1) := o1
    have HR1 : Hid (∀ b ∈ b1, w.heap.size + 1 < b ∧ b < w1.heap.size) := (show ∀ b ∈ b1, _ from fun b hb => by have := r1 b hb; omega)
    have HN1 : Hid _ := n1
    clear x0 x1 x2 x3 x4 x5 x6 x7 y0 y1 y2 y3 y4 y5 y6 y7
    obtain ⟨⟨x0, x1, x2, x3, x4, x5, x6, x7⟩, y0, y1, y2, y3, y4, y5, y6, y7⟩ := X1
    clear hb1 o1 r1 n1
    refine hK.out _ _ trivial (fun _ => ?_)
    clear hK K
    refine' wpAnyH_take (i := 6) (v := _) rfl (by kernel_rfl) (by kernel_rfl) (by kernel_rfl) (fun _ _ _ h => h) (Or.inl ⟨by rfl, ?hy1007⟩) trivial ?hn1007
    case hy1007 => (intro wz hSw; go_simp; first | done | with_reducible rfl)
    try simp only [List.getElem_toArray, List.getElem_cons_zero, List.getElem_cons_succ, Act.put, List.setIfInBounds_toArray, List.set_cons_zero, List.set_cons_succ]
    refine wpAnyH_ready (rs := [5]) (by kernel_rfl) (by simp) ?_
    refine AllReadyH.cons rfl (fun K hK => ?_) AllReadyH.nil
    go_simp
    refine Calls.mono (C2.out _ HB1.out) ?_
    rintro e w2 ⟨e', b2, rfl, hb2, o2, r2, n2⟩
    obtain ⟨ea', ec', rfl⟩ := o2.slice
    have X1 := C8.below HX1.out hb2
    have HY1 : Hid (C8 w2 w.heap.size (.int .i64 p.k) (.int .i64 p.v) (.int .i64 p.vk) (.int .i64 p.va) (.int .i64 p.vb) (.int .i64 p.h) (.slice ta lt tc) (.slice ea le ec)) := X1
    have HY2 : Hid (C8 w2 (w.heap.size + 1) (.int .i64 0) (.int .i64 0) (.int .i64 0) (.int .i64 0) (.int .i64 0) (.int .i64 0) (.slice none 0 0) (.slice none 0 0)) := C8.below HX2.out hb2
    have HB2 : Hid (Below w1.heap.size w1 w2) := hb2
    have HO2 : Hid (Own w2 k (.slice ea' (ln k T2) ec') T2 b2) := o2
    have HR2 : Hid (∀ b ∈ b2, w1.heap.size ≤ b ∧ b < w2.heap.size) := r2
    have HN2 : Hid _ := n2
    have hs2 : w1.heap.size ≤ w2.heap.size := hb2.size
    clear x0 x1 x2 x3 x4 x5 x6 x7 y0 y1 y2 y3 y4 y5 y6 y7
    obtain ⟨⟨x0, x1, x2, x3, x4, x5, x6, x7⟩, y0, y1, y2, y3, y4, y5, y6, y7⟩ := X1
    clear hb2 o2 r2 n2
    refine hK.out _ _ trivial (fun _ => ?_)
    clear hK K
    refine wpAnyH_ready (rs := [7]) (by kernel_rfl) (by simp) ?_
    refine AllReadyH.cons rfl (fun K hK => ?_) AllReadyH.nil
    go_simp
    refine hK.out _ _ trivial (fun _ => ?_)
    clear hK K
    refine' wpAnyH_take (i := 8) (v := _) rfl (by kernel_rfl) (by kernel_rfl) (by kernel_rfl) (fun _ _ _ h => h) (Or.inl ⟨by rfl, ?hy1008⟩) trivial ?hn1008
    case hy1008 => (intro wz hSw; go_simp; first | done | with_reducible rfl)
    try simp only [List.getElem_toArray, List.getElem_cons_zero, List.getElem_cons_succ, Act.put, List.setIfInBounds_toArray, List.set_cons_zero, List.set_cons_succ]
    refine wpAnyH_ready (rs := [9]) (by kernel_rfl) (by simp) ?_
    refine AllReadyH.cons rfl (fun K hK => ?_) AllReadyH.nil
    go_simp
    refine hK.out _ _ trivial (fun _ => ?_)
    clear hK K
    refine wpAnyH_done (by kernel_rfl) ?_ _
    clear x0 x1 x2 x3 x4 x5 x6 x7 y0 y1 y2 y3 y4 y5 y6 y7
    have Y1 := (HY1.out.set6 (.slice ta' (ln k T1) tc')).set7 (.slice ea' (ln k T2) ec')
    have Y2 := (HY2.out.far (a := ⟨w.heap.size, 6, none⟩) (by show w.heap.size ≠ w.heap.size + 1; omega) (.slice ta' (ln k T1) tc')).far (a := ⟨w.heap.size, 7, none⟩) (by show w.heap.size ≠ w.heap.size + 1; omega) (.slice ea' (ln k T2) ec')
    obtain ⟨⟨x0, x1, x2, x3, x4, x5, x6, x7⟩, y0, y1, y2, y3, y4, y5, y6, y7⟩ := Y1
    obtain ⟨⟨z0, z1, z2, z3, z4, z5, z6, z7⟩, u0, u1, u2, u3, u4, u5, u6, u7⟩ := Y2
    go_wp2
    have B2 : Below w.heap.size w w2 := Below.then HB1.out HB2.out (by omega)
    have AF := ((((((((((HY2.out.far (a := ⟨w.heap.size, 6, none⟩) (by show w.heap.size ≠ w.heap.size + 1; omega) (.slice ta' (ln k T1) tc')).far (a := ⟨w.heap.size, 7, none⟩) (by show w.heap.size ≠ w.heap.size + 1; omega) (.slice ea' (ln k T2) ec')).set0 (.int .i64 p.k)).set1 (.int .i64 p.v)).set2 (.int .i64 p.vk)).set3 (.int .i64 p.va)).set4 (.int .i64 p.vb)).set5 (.int .i64 p.h)).set6 (.slice ta' (ln k T1) tc')).set7 (.slice ea' (ln k T2) ec'))
    have BF := ((((((((((B2.setCell (p := ⟨w.heap.size, 6, none⟩) (Nat.le_refl _) (.slice ta' (ln k T1) tc')).setCell (p := ⟨w.heap.size, 7, none⟩) (Nat.le_refl _) (.slice ea' (ln k T2) ec')).setCell (p := ⟨w.heap.size + 1, 0, none⟩) (by show w.heap.size ≤ w.heap.size + 1; omega) (.int .i64 p.k)).setCell (p := ⟨w.heap.size + 1, 1, none⟩) (by show w.heap.size ≤ w.heap.size + 1; omega) (.int .i64 p.v)).setCell (p := ⟨w.heap.size + 1, 2, none⟩) (by show w.heap.size ≤ w.heap.size + 1; omega) (.int .i64 p.vk)).setCell (p := ⟨w.heap.size + 1, 3, none⟩) (by show w.heap.size ≤ w.heap.size + 1; omega) (.int .i64 p.va)).setCell (p := ⟨w.heap.size + 1, 4, none⟩) (by show w.heap.size ≤ w.heap.size + 1; omega) (.int .i64 p.vb)).setCell (p := ⟨w.heap.size + 1, 5, none⟩) (by show w.heap.size ≤ w.heap.size + 1; omega) (.int .i64 p.h)).setCell (p := ⟨w.heap.size + 1, 6, none⟩) (by show w.heap.size ≤ w.heap.size + 1; omega) (.slice ta' (ln k T1) tc')).setCell (p := ⟨w.heap.size + 1, 7, none⟩) (by show w.heap.size ≤ w.heap.size + 1; omega) (.slice ea' (ln k T2) ec'))
    have hh : ∀ b, b ≠ w.heap.size + 1 → b ≠ w.heap.size → ((((((((((w2.setCell ⟨w.heap.size, 6, none⟩ (.slice ta' (ln k T1) tc')).setCell ⟨w.heap.size, 7, none⟩ (.slice ea' (ln k T2) ec')).setCell ⟨w.heap.size + 1, 0, none⟩ (.int .i64 p.k)).setCell ⟨w.heap.size + 1, 1, none⟩ (.int .i64 p.v)).setCell ⟨w.heap.size + 1, 2, none⟩ (.int .i64 p.vk)).setCell ⟨w.heap.size + 1, 3, none⟩ (.int .i64 p.va)).setCell ⟨w.heap.size + 1, 4, none⟩ (.int .i64 p.vb)).setCell ⟨w.heap.size + 1, 5, none⟩ (.int .i64 p.h)).setCell ⟨w.heap.size + 1, 6, none⟩ (.slice ta' (ln k T1) tc')).setCell ⟨w.heap.size + 1, 7, none⟩ (.slice ea' (ln k T2) ec')).heap[b]? = w2.heap[b]? := fun b h1 h2 => by
      rw [Below.heap_setCell _ _ _ _ h1, Below.heap_setCell _ _ _ _ h1, Below.heap_setCell _ _ _ _ h1, Below.heap_setCell _ _ _ _ h1, Below.heap_setCell _ _ _ _ h1, Below.heap_setCell _ _ _ _ h1, Below.heap_setCell _ _ _ _ h1, Below.heap_setCell _ _ _ _ h1, Below.heap_setCell _ _ _ _ h2, Below.heap_setCell _ _ _ _ h2]
    have sF : ((((((((((w2.setCell ⟨w.heap.size, 6, none⟩ (.slice ta' (ln k T1) tc')).setCell ⟨w.heap.size, 7, none⟩ (.slice ea' (ln k T2) ec')).setCell ⟨w.heap.size + 1, 0, none⟩ (.int .i64 p.k)).setCell ⟨w.heap.size + 1, 1, none⟩ (.int .i64 p.v)).setCell ⟨w.heap.size + 1, 2, none⟩ (.int .i64 p.vk)).setCell ⟨w.heap.size + 1, 3, none⟩ (.int .i64 p.va)).setCell ⟨w.heap.size + 1, 4, none⟩ (.int .i64 p.vb)).setCell ⟨w.heap.size + 1, 5, none⟩ (.int .i64 p.h)).setCell ⟨w.heap.size + 1, 6, none⟩ (.slice ta' (ln k T1) tc')).setCell ⟨w.heap.size + 1, 7, none⟩ (.slice ea' (ln k T2) ec')).heap.size = w2.heap.size := by simp [World.setCell]
    generalize ((((((((((w2.setCell ⟨w.heap.size, 6, none⟩ (.slice ta' (ln k T1) tc')).setCell ⟨w.heap.size, 7, none⟩ (.slice ea' (ln k T2) ec')).setCell ⟨w.heap.size + 1, 0, none⟩ (.int .i64 p.k)).setCell ⟨w.heap.size + 1, 1, none⟩ (.int .i64 p.v)).setCell ⟨w.heap.size + 1, 2, none⟩ (.int .i64 p.vk)).setCell ⟨w.heap.size + 1, 3, none⟩ (.int .i64 p.va)).setCell ⟨w.heap.size + 1, 4, none⟩ (.int .i64 p.vb)).setCell ⟨w.heap.size + 1, 5, none⟩ (.int .i64 p.h)).setCell ⟨w.heap.size + 1, 6, none⟩ (.slice ta' (ln k T1) tc')).setCell ⟨w.heap.size + 1, 7, none⟩ (.slice ea' (ln k T2) ec')) = wf at *
    have r1 : ∀ b ∈ b1, w.heap.size + 1 < b ∧ b < w1.heap.size := HR1.out
    have r2 : ∀ b ∈ b2, w1.heap.size ≤ b ∧ b < w2.heap.size := HR2.out
    obtain ⟨⟨c0, c1, c2, c3, c4, c5, c6, c7⟩, _⟩ := AF
    refine bodyPost_ret (v := .agg #[.int .i64 p.k, .int .i64 p.v, .int .i64 p.vk, .int .i64 p.va, .int .i64 p.vb, .int .i64 p.h, .slice ta' (ln k T1) tc', .slice ea' (ln k T2) ec']) (by simp [results, Tryd.results62, go_sem, c0, c1, c2, c3, c4, c5, c6, c7]) rfl ⟨_, _, b1, b2, rfl, BF, ?_, ?_, ?_, ?_⟩
    · exact Own.frame (fun b hb => hh b (by have := r1 b hb; omega) (by have := r1 b hb; omega)) (Own.below HO1.out HB2.out (fun b hb => (r1 b hb).2))
    · exact Own.frame (fun b hb => hh b (by have := r2 b hb; omega) (by have := r2 b hb; omega)) HO2.out
    · intro b hb
      rcases List.mem_append.1 hb with hb | hb
      · have := r1 b hb; omega
      · have := r2 b hb; omega
    · refine List.nodup_append.2 ⟨HN1.out, HN2.out, ?_⟩
      intro a ha b hb
      have := r1 a ha
      have := r2 b hb
      omega

end Go.Proofs.YtpmhkhajahoaaaaDoor

namespace Go.Proofs.YtpmhkhajahoaaaaDoor
open Go.RowKit
set_option linter.unusedSimpArgs false
set_option linter.unusedVariables false
attribute [local go_sem] World.cell?_alloc_some

set_option maxHeartbeats 4000000 in
theorem copySteps_any : ∀ (d : Nat) (T : Tr d) (s : Value) (w : World), Rep w d s T → cnt d T ≤ 1048576 → Cp 87 d T w s := by
  intro d
  obtain ⟨i0, hi0, hz0, hz1, hz2⟩ := info_parts infoStep
  induction d with
  | zero =>
    intro T s w h hc
    obtain ⟨a, c, rfl⟩ := h
    unfold Cp
    go_enter Tryd.func87, Tryd.ntmps87
    go_wp2
    go_ret
    exact ⟨_, [], rfl, Below.refl _ _, ⟨⟨_, _, rfl⟩, rfl⟩, by simp, by simp⟩
  | succ d ih =>
    intro (l : List (Pay × Tr d × Tr d)) s w h hcn
    obtain ⟨a, c, rfl, hlc, hcm, hcell⟩ := h
    have hll := ln_le_cnt (d + 1) (l : List (Pay × Tr d × Tr d))
    have hll' : l.length ≤ cnt (d + 1) (l : List (Pay × Tr d × Tr d)) := hll
    have hlen : l.length ≤ 1048576 := by omega
    by_cases hzero : l.length = 0
    · unfold Cp
      rw [hzero]
      go_enter Tryd.func87, Tryd.ntmps87
      go_wp2
      go_ret
      exact ⟨_, [], rfl, Below.refl _ _, .inl ⟨hzero, ⟨_, _, rfl, by unfold maxLen; omega⟩, rfl⟩, by simp, by simp⟩
    have hz0' : ((l.length : Int) == 0) = false := beq_eq_false_iff_ne.2 (by omega)
    unfold Cp
    have HC : Hid (∀ i (hi : i < l.length), ∃ (p : Pay) (T1 T2 : Tr d) (b off : Nat) (ta : Option Addr) (tc : Nat) (ea : Option Addr) (ec : Nat), l[i] = (p, T1, T2) ∧ a = some ⟨b, off, none⟩ ∧ StepAt w b (off + i * 8) p (.slice ta (ln d T1) tc) (.slice ea (ln d T2) ec) ∧ Rep w d (.slice ta (ln d T1) tc) T1 ∧ Rep w d (.slice ea (ln d T2) ec) T2) := (show ∀ i (hi : i < l.length), _ by
      intro i hi
      obtain ⟨b, off, t, e, ha, hS, r1, r2⟩ := hcell i hi
      obtain ⟨ta, tc, rfl⟩ := r1.slice
      obtain ⟨ea, ec, rfl⟩ := r2.slice
      exact ⟨_, _, _, b, off, ta, tc, ea, ec, rfl, ha, hS, r1, r2⟩)
    have IH : Hid _ := ih
    clear ih hcell hll
    go_enter Tryd.func87, Tryd.ntmps87
    go_wp2_with (at_make; refine wpList_make_full _ rfl _ _ 24 rfl w.heap.size 43 i0 _ 8 Tryd.underlying24 hi0 hz0 hz1 _ _ _ _ l.length rfl rfl rfl rfl ?b2 ?b3 ?b4 ?_)
    case b2 => rw [hz2]; omega
    case b3 => unfold maxLen; omega
    case b4 => exact Nat.le_refl _
    intro w0 own0 grow0
    have t0 := row_there own0
    have B0 : Below w.heap.size w w0 := (Below.refl _ _).grown grow0 (Nat.le_refl _) (fun k hk => by cases hk)
    have s0 : w.heap.size < w0.heap.size := (own0.lt w.heap.size rfl).2
    clear own0 grow0
    go_wp2_with fail
    go_loopw [14] (fun j wr => ∃ (i : Nat) (parts : List (List Nat)), i ≤ l.length ∧ j = .int .i64 i ∧ Below w.heap.size w wr ∧ w.heap.size < wr.heap.size ∧ wr.there w.heap.size 0 (l.length * 8) ∧ parts.length = i ∧ (∀ b ∈ parts.flatten, w.heap.size < b ∧ b < wr.heap.size) ∧ parts.flatten.Nodup ∧
        ∀ q (hq : q < l.length), q < i → ∃ t e b1 b2, parts[q]? = some (b1 ++ b2) ∧ wr.rangeAt w.heap.size (q * 8) (cells8 l[q].1 t e) ∧ Own wr d t l[q].2.1 b1 ∧ Own wr d e l[q].2.2 b2) (fun j _ => l.length - (intOf j).toNat)
    case atStart => exact ⟨0, [], by omega, rfl, B0, s0, t0, rfl, by simp, by simp, fun q _ h => by omega⟩
    case round =>
      obtain ⟨i, parts, hi, rfl, hbr, hgs, hth, hpl, hrg, hnd, hown⟩ := hrel
      have hsz : w.heap.size ≤ wr.heap.size := hbr.size
      by_cases hlt : i < l.length
      · obtain ⟨p, T1, T2, b, off, ta, tc, ea, ec, hx, rfl, hS, r1, r2⟩ := HC.out i hlt
        obtain ⟨k0, k1, k2, k3, k4, k5, k6, k7⟩ := hS.on (w' := wr) (fun a v h => cell_later hbr h)
        have i0' : (0 : Int) ≤ (i : Int) := by omega
        have i1' : (i : Int) < (l.length : Int) := by omega
        have q1 := cnt_take l i hlt
        rw [hx] at q1
        dsimp only at q1
        have q2 := cnt_take_le l (i + 1)
        have AB : Below wr.heap.size wr (wr.alloc (.cells #[.int .i64 p.k, .int .i64 p.v, .int .i64 p.vk, .int .i64 p.va, .int .i64 p.vb, .int .i64 p.h, .slice ta (ln d T1) tc, .slice ea (ln d T2) ec] 43)) := (Below.refl _ _).alloc (Nat.le_refl _) _
        have c1 : Hid (Calls Tryd.prog 62 #[.agg #[.int .i64 p.k, .int .i64 p.v, .int .i64 p.vk, .int .i64 p.va, .int .i64 p.vb, .int .i64 p.h, .slice ta (ln d T1) tc, .slice ea (ln d T2) ec]] (wr.alloc (.cells #[.int .i64 p.k, .int .i64 p.v, .int .i64 p.vk, .int .i64 p.va, .int .i64 p.vb, .int .i64 p.h, .slice ta (ln d T1) tc, .slice ea (ln d T2) ec] 43))
            fun e w' => ∃ t' e' b1 b2, e = .returned (.agg #[.int .i64 p.k, .int .i64 p.v, .int .i64 p.vk, .int .i64 p.va, .int .i64 p.vb, .int .i64 p.h, t', e']) ∧ Below wr.heap.size wr w' ∧ Own w' d t' T1 b1 ∧ Own w' d e' T2 b2 ∧ (∀ b ∈ b1 ++ b2, wr.heap.size ≤ b ∧ b < w'.heap.size) ∧ (b1 ++ b2).Nodup) :=
          (copyStep_of d T1 T2 p ta ea (ln d T1) tc (ln d T2) ec (wr.alloc (.cells #[.int .i64 p.k, .int .i64 p.v, .int .i64 p.vk, .int .i64 p.va, .int .i64 p.vb, .int .i64 p.h, .slice ta (ln d T1) tc, .slice ea (ln d T2) ec] 43)) (fun wx hwx => IH.out T1 _ wx ((r1.below hbr).below (Below.then AB hwx (by simp))) (by omega)) (fun wx hwx => IH.out T2 _ wx ((r2.below hbr).below (Below.then AB hwx (by simp))) (by omega))).mono (by
            rintro e w' ⟨t', e', b1, b2, he, hb, o1, o2, rg, nd⟩
            exact ⟨t', e', b1, b2, he, Below.then AB hb (by simp), o1, o2, fun b hb => by have := rg b hb; simp at this; omega, nd⟩)
        have HTH : Hid _ := hth
        have HRG : Hid _ := hrg
        have HOW : Hid _ := hown
        have HBR : Hid (Below w.heap.size w wr) := hbr
        clear hS r1 r2 q1 q2 hth hrg hown hbr AB
        go_wp2_with fail
        go_at_call 62; refine Calls.mono c1.out ?_
        rintro e w1 ⟨t', e', b1, b2, rfl, hb1, o1, o2, rg, nd⟩
        obtain ⟨ta', tc', rfl⟩ := o1.slice
        obtain ⟨ea', ec', rfl⟩ := o2.slice
        clear k0 k1 k2 k3 k4 k5 k6 k7 c1
        have th1 : w1.there w.heap.size 0 (l.length * 8) := there_same (hb1.block _ hgs) HTH.out
        have HT1 : Hid (w1.there w.heap.size (i * 8) 8) := (show w1.there w.heap.size (i * 8) 8 from fun j hj => by
          have := th1 (i * 8 + j) (by omega)
          rwa [Nat.zero_add] at this)
        have H1 : Hid _ := th1
        have HB1 : Hid (Below wr.heap.size wr w1) := hb1
        have HO1 : Hid _ := o1
        have HO2 : Hid _ := o2
        clear th1 hb1 o1 o2
        go_wp2_with (refine wpList_store_mid rfl _ _ _ rfl w.heap.size (i * 8) _ rfl rfl ?ht ?hi ?h1 ?_)
        case ht => exact HT1.out
        case hi => rw [hi0]; simp [hz1]
        case h1 => exact all_oneCell_toArray (cells8_one p ta' ea' _ _ _ _)
        have hb1 : Below wr.heap.size wr w1 := HB1.out
        have s1 : wr.heap.size ≤ w1.heap.size := hb1.size
        have hrg : ∀ b ∈ parts.flatten, w.heap.size < b ∧ b < wr.heap.size := HRG.out
        have hhp : ∀ b, w.heap.size < b → b < wr.heap.size → (w1.setCells w.heap.size (i * 8) (cells8 p (.slice ta' (ln d T1) tc') (.slice ea' (ln d T2) ec'))).heap[b]? = wr.heap[b]? := fun b h1 h2 => (heap_setCells _ _ _ _ (by omega)).trans (hb1.block b h2)
        have hhp2 : ∀ b, w.heap.size < b → (w1.setCells w.heap.size (i * 8) (cells8 p (.slice ta' (ln d T1) tc') (.slice ea' (ln d T2) ec'))).heap[b]? = w1.heap[b]? := fun b h1 => heap_setCells _ _ _ _ (by omega)
        refine ⟨⟨i + 1, parts ++ [b1 ++ b2], by omega, by simp, below_setCells (Nat.le_refl _) _ _ _ (Below.then HBR.out hb1 hsz), by rw [size_setCells]; omega, World.there_setCells H1.out _ _ _, by simp [hpl], ?_, ?_, ?_⟩, by simp [intOf]; omega⟩
        · intro b hb
          rw [size_setCells]
          rw [List.flatten_append] at hb
          rcases List.mem_append.1 hb with hb | hb
          · have := hrg b hb; omega
          · have := rg b (by simpa using hb); omega
        · rw [List.flatten_append]
          refine List.nodup_append.2 ⟨hnd, by simpa using nd, ?_⟩
          intro a ha b hb
          have := hrg a ha
          have := rg b (by simpa using hb)
          omega
        · intro q hq hqi
          by_cases hqe : q = i
          · subst hqe
            refine ⟨.slice ta' (ln d T1) tc', .slice ea' (ln d T2) ec', b1, b2, by rw [List.getElem?_append_right (by omega), hpl]; simp, ?_, ?_, ?_⟩
            · rw [hx]; exact World.rangeAt_setCells_same w1 w.heap.size (q * 8) (cells8 p (.slice ta' (ln d T1) tc') (.slice ea' (ln d T2) ec')) HT1.out
            · rw [hx]; exact Own.frame (fun b hb => hhp2 b (by have := rg b (List.mem_append_left _ hb); omega)) HO1.out
            · rw [hx]; exact Own.frame (fun b hb => hhp2 b (by have := rg b (List.mem_append_right _ hb); omega)) HO2.out
          · obtain ⟨t, e, c1, c2, hp1, hra, oo1, oo2⟩ := HOW.out q hq (by omega)
            have hm : ∀ b ∈ c1 ++ c2, b ∈ parts.flatten := fun b hbm => List.mem_flatten.2 ⟨_, List.mem_of_getElem? hp1, hbm⟩
            refine ⟨t, e, c1, c2, by rw [List.getElem?_append_left (by omega)]; exact hp1, World.rangeAt_setCells_apart (range_same (hb1.block _ hgs) hra) _ _ _ (.inr (.inl (by simp [cells8]; omega))), ?_, ?_⟩
            · exact Own.frame (fun b hb => by have := hrg b (hm b (List.mem_append_left _ hb)); exact hhp b this.1 this.2) oo1
            · exact Own.frame (fun b hb => by have := hrg b (hm b (List.mem_append_right _ hb)); exact hhp b this.1 this.2) oo2
      · have hie : i = l.length := by omega
        subst hie
        have HTH : Hid _ := hth
        have HRG : Hid _ := hrg
        have HOW : Hid _ := hown
        have HBR : Hid (Below w.heap.size w wr) := hbr
        clear hth hrg hown hbr
        go_wp2
        go_ret
        by_cases hz : l.length = 0
        · exact ⟨_, [], rfl, HBR.out, .inl ⟨hz, ⟨_, _, by rw [hz]; rfl, by unfold maxLen; omega⟩, rfl⟩, by simp, by simp⟩
        · refine ⟨_, w.heap.size :: parts.flatten, rfl, HBR.out, .inr ⟨by omega, w.heap.size, l.length, parts, rfl, Nat.le_refl _, by unfold maxLen; omega, HTH.out, hpl, rfl, fun q hq => HOW.out q hq hq⟩, ?_, ?_⟩
          · intro b hb
            rcases List.mem_cons.1 hb with rfl | hb
            · exact ⟨Nat.le_refl _, hgs⟩
            · have := HRG.out b hb; omega
          · refine List.nodup_cons.2 ⟨fun hm => ?_, hnd⟩
            have := HRG.out _ hm; omega

end Go.Proofs.YtpmhkhajahoaaaaDoor
