/- Steps without one, and fine programs, as they are drawn. -/
import Derived.Test.YthcgdhlemieboaaGreatTkTyx
import Derived.Test.YthcgdhlemieboaaGreatTkBnt
namespace Go.Proofs.YthcgdhlemieboaaGreat
open Go.RowKit
set_option linter.unusedSimpArgs false
set_option linter.unusedVariables false
attribute [local go_sem] World.cell?_alloc_some

theorem cnt_push {d : Nat} (l : List (Pay × Tr d × Tr d)) (x : Pay × Tr d × Tr d) : cnt (d + 1) (l ++ [x] : List (Pay × Tr d × Tr d)) = cnt (d + 1) (l : List (Pay × Tr d × Tr d)) + (1 + cnt d x.2.1 + cnt d x.2.2) := by
  show ((l ++ [x]).map fun x => 1 + cnt d x.2.1 + cnt d x.2.2).sum = (l.map fun x => 1 + cnt d x.2.1 + cnt d x.2.2).sum + _
  rw [List.map_append, List.sum_append]; simp
theorem c8_cells {w : World} {b : Nat} {v0 v1 v2 v3 v4 v5 v6 v7 : Value} (h : C8 w b v0 v1 v2 v3 v4 v5 v6 v7) : b < w.heap.size := World.block_lt_of_cell? w _ h.1.1

set_option maxHeartbeats 8000000 in
set_option maxRecDepth 20000 in
theorem l71Without_any : ∀ (d : Nat) (T : Tr d) (P : Nat → Prop) (s : Value) (n : Int) (w : World), RepP P w d s T → cnt d T ≤ 1048576 → -1 ≤ n → n ≤ 2097152 →
    Calls Tryz.prog 57 #[s, .int .i64 n] w fun e w' => ∃ v' T', e = .returned v' ∧ Below w.heap.size w w' ∧ RepP (fun b => P b ∨ w.heap.size ≤ b) w' d v' T' ∧ cnt d T' ≤ cnt d T := by
  intro d
  obtain ⟨i0, hi0, hz0, hz1, hz2⟩ := info_parts infoStep
  induction d with
  | zero =>
    intro T P s n w h hc hn0 hn1
    obtain ⟨a, c, rfl⟩ := h
    go_enter Tryz.func57, Tryz.ntmps57
    go_wp2
    refine wp_loop_rounds 1 ?_
    rw [rounds_succ]
    go_wp2
    go_ret
    exact ⟨_, T, rfl, (Below.refl _ _).alloc (Nat.le_refl _) _, ⟨_, _, rfl⟩, Nat.le_refl _⟩
  | succ d ih =>
    intro (l : List (Pay × Tr d × Tr d)) P s n w h hc hn0 hn1
    obtain ⟨a, c, rfl, hlc, hcm, hcell⟩ := h
    have hlm : (l.length : Int) ≤ 9223372036854775807 := by unfold maxLen at hcm; omega
    have hll0 : l.length ≤ cnt (d + 1) (l : List (Pay × Tr d × Tr d)) := ln_le_cnt (d + 1) (l : List (Pay × Tr d × Tr d))
    have HC : Hid (∀ i (hi : i < l.length), ∃ (p : Pay) (T1 T2 : Tr d) (b off : Nat) (ta : Option Addr) (tc : Nat) (ea : Option Addr) (ec : Nat), l[i] = (p, T1, T2) ∧ a = some ⟨b, off, none⟩ ∧ StepAt w b (off + i * 8) p (.slice ta (ln d T1) tc) (.slice ea (ln d T2) ec) ∧ RepP P w d (.slice ta (ln d T1) tc) T1 ∧ RepP P w d (.slice ea (ln d T2) ec) T2) := (show ∀ i (hi : i < l.length), _ by
      intro i hi
      obtain ⟨b, off, t, e, ha, _, hS, r1, r2⟩ := hcell i hi
      obtain ⟨ta, tc, rfl⟩ := r1.slice
      obtain ⟨ea, ec, rfl⟩ := r2.slice
      exact ⟨_, _, _, b, off, ta, tc, ea, ec, rfl, ha, hS, r1, r2⟩)
    have IH : Hid _ := ih
    clear ih hcell
    have H0 : Hid (RowP (fun b => P b ∨ w.heap.size ≤ b) (w.alloc (.cells #[] 66)) d (.slice (some ⟨w.heap.size, 0, none⟩) 0 0) [] []) := ⟨rowp_zero (World.ownsRow_made (base := w.heap.size) w #[] 0 (Nat.le_refl _) (by unfold maxLen; omega) (by simp)), fun k hk => by have : w.heap.size = k := Option.some.inj hk; omega, fun q hq => by simp at hq⟩
    go_enter Tryz.func57, Tryz.ntmps57
    go_wp2
    go_loopw [1, 5, 6] (fun q o j wr => ∃ (i : Nat) (n : Int) (l' : List (Pay × Tr d × Tr d)) (ys : List Value) (g gc : Nat), i ≤ l.length ∧ -1 ≤ n ∧ n ≤ 2097152 ∧ j = .int .i64 i ∧ q = .int .i64 n ∧ o = .slice (some ⟨g, 0, none⟩) l'.length gc ∧ Below w.heap.size w wr ∧ RowP (fun b => P b ∨ w.heap.size ≤ b) wr d (.slice (some ⟨g, 0, none⟩) l'.length gc) l' ys ∧ cnt (d + 1) (l' : List (Pay × Tr d × Tr d)) ≤ cnt (d + 1) (l.take i : List (Pay × Tr d × Tr d)) ∧ l'.length ≤ i ∧ w.heap.size ≤ g) (fun _ _ j _ => l.length - (intOf j).toNat)
    case atStart => exact ⟨0, n, [], [], w.heap.size, 0, by omega, hn0, hn1, rfl, rfl, rfl, (Below.refl _ _).alloc (Nat.le_refl _) _, H0.out, Nat.le_refl _, by simp, Nat.le_refl _⟩
    case round =>
      clear H0 hn0 hn1 n
      obtain ⟨i, n, l', ys, g, gc, hi, hn0, hn1, rfl, rfl, rfl, hbr, hrow, hcl, hll, hg⟩ := hrel
      have hsz : w.heap.size ≤ wr.heap.size := hbr.size
      by_cases hlt : i < l.length
      · obtain ⟨p, T1, T2, b, off, ta, tc, ea, ec, hx, rfl, hS, r1, r2⟩ := HC.out i hlt
        obtain ⟨k0, k1, k2, k3, k4, k5, k6, k7⟩ := hS.on (w' := wr) (fun a v h => cell_later hbr h)
        have q1 := cnt_take l i hlt
        have q4 := cnt_take_le l (i + 1)
        rw [hx] at q1
        dsimp only at q1
        have hc1 : cnt d T1 ≤ 1048576 := by omega
        have hc2 : cnt d T2 ≤ 1048576 := by omega
        have hc12 : cnt d T1 + cnt d T2 ≤ 1048576 := by omega
        have HQ1 : Hid _ := q1
        have HCL : Hid _ := hcl
        have i0' : (0 : Int) ≤ (i : Int) := by omega
        have i1' : (i : Int) < (l.length : Int) := by omega
        have A1 : Below wr.heap.size wr (wr.alloc (.cells #[.int .i64 p.k, .int .i64 p.v, .int .i64 p.vk, .int .i64 p.va, .int .i64 p.vb, .int .i64 p.h, .slice ta (ln d T1) tc, .slice ea (ln d T2) ec] 66)) := (Below.refl _ _).alloc (Nat.le_refl _) _
        have G1 := C8.new wr (.int .i64 p.k) (.int .i64 p.v) (.int .i64 p.vk) (.int .i64 p.va) (.int .i64 p.vb) (.int .i64 p.h) (.slice ta (ln d T1) tc) (.slice ea (ln d T2) ec) 66
        have R1 : Hid (∀ wz, Below (wr.alloc (.cells #[.int .i64 p.k, .int .i64 p.v, .int .i64 p.vk, .int .i64 p.va, .int .i64 p.vb, .int .i64 p.h, .slice ta (ln d T1) tc, .slice ea (ln d T2) ec] 66)).heap.size (wr.alloc (.cells #[.int .i64 p.k, .int .i64 p.v, .int .i64 p.vk, .int .i64 p.va, .int .i64 p.vb, .int .i64 p.h, .slice ta (ln d T1) tc, .slice ea (ln d T2) ec] 66)) wz → RepP (fun b => P b ∧ b < w.heap.size) wz d (.slice ta (ln d T1) tc) T1) := (show ∀ wz, _ from fun wz hb => r1.frame (fun b pb hl => ⟨(hb.block b (by simp; omega)).trans ((A1.block b (by omega)).trans (hbr.block b hl)), pb, hl⟩))
        have R2 : Hid (∀ wz, Below (wr.alloc (.cells #[.int .i64 p.k, .int .i64 p.v, .int .i64 p.vk, .int .i64 p.va, .int .i64 p.vb, .int .i64 p.h, .slice ta (ln d T1) tc, .slice ea (ln d T2) ec] 66)).heap.size (wr.alloc (.cells #[.int .i64 p.k, .int .i64 p.v, .int .i64 p.vk, .int .i64 p.va, .int .i64 p.vb, .int .i64 p.h, .slice ta (ln d T1) tc, .slice ea (ln d T2) ec] 66)) wz → RepP (fun b => P b ∧ b < w.heap.size) wz d (.slice ea (ln d T2) ec) T2) := (show ∀ wz, _ from fun wz hb => r2.frame (fun b pb hl => ⟨(hb.block b (by simp; omega)).trans ((A1.block b (by omega)).trans (hbr.block b hl)), pb, hl⟩))
        have HROW : Hid (RowP (fun b => P b ∨ w.heap.size ≤ b) wr d (.slice (some ⟨g, 0, none⟩) l'.length gc) l' ys) := hrow
        have hgr : g < wr.heap.size := (World.ownsRow.lt hrow.1 g rfl).2
        have HBR : Hid (Below w.heap.size w wr) := hbr
        clear hrow hbr hS r1 r2 hx hcl q1
        go_upto_region 6 with fail
        clear k0 k1 k2 k3 k4 k5 k6 k7
        generalize (wr.alloc (.cells #[.int .i64 p.k, .int .i64 p.v, .int .i64 p.vk, .int .i64 p.va, .int .i64 p.vb, .int .i64 p.h, .slice ta (ln d T1) tc, .slice ea (ln d T2) ec] 66)) = X1 at *
        have HG1 : Hid (C8 X1 wr.heap.size (.int .i64 p.k) (.int .i64 p.v) (.int .i64 p.vk) (.int .i64 p.va) (.int .i64 p.vb) (.int .i64 p.h) (.slice ta (ln d T1) tc) (.slice ea (ln d T2) ec)) := G1
        have HA1 : Hid (Below wr.heap.size wr X1) := A1
        have zX1 : wr.heap.size < X1.heap.size := c8_cells G1
        have BX1 : Hid (Below w.heap.size w X1) := Below.then HBR.out A1 hsz
        obtain ⟨⟨x0, x1, x2, x3, x4, x5, x6, x7⟩, -⟩ := G1
        clear A1
        by_cases hn : n = 0
        · subst hn
          go_wp2
          refine ⟨⟨i + 1, -1, l', ys, g, gc, by omega, by omega, by omega, by simp, rfl, rfl, BX1.out, HROW.out.frame (fun b pb hl => ⟨HA1.out.block b hl, pb⟩), by have := HQ1.out; have := HCL.out; omega, by omega, hg⟩, by simp [intOf]; omega⟩
        · have v1 := w64 (1 + (cnt d T1 : Int)) (by omega)
          have v2 := w64 (1 + (cnt d T1 : Int) + (cnt d T2 : Int)) (by omega)
          have v3 := w64 (n - 1) (by omega)
          go_wp2_with fail
          refine wp_region_held (S := (fun wz => wz.cell? ⟨wr.heap.size, 6, none⟩ = some (.slice ta (ln d T1) tc) ∧ wz.cell? ⟨wr.heap.size, 7, none⟩ = some (.slice ea (ln d T2) ec) ∧ Below X1.heap.size X1 wz)) (by kernel_rfl) ?_
          change wpAnyH _ _ _ _ _ _ _ _ (World.drew _)
          have hHeld := (show (fun wz => wz.cell? ⟨wr.heap.size, 6, none⟩ = some (.slice ta (ln d T1) tc) ∧ wz.cell? ⟨wr.heap.size, 7, none⟩ = some (.slice ea (ln d T2) ec) ∧ Below X1.heap.size X1 wz) (World.drew X1) from ⟨x6, x7, (Below.refl _ _).drew⟩)
          refine' wpAnyH_take (i := 0) (v := _) rfl (by kernel_rfl) (by kernel_rfl) (by kernel_rfl) (fun _ _ _ h => h) (Or.inl ⟨by rfl, ?hy9001⟩) hHeld ?hn9001
          case hy9001 => (intro wz hSw; (try dsimp only at hSw); go_simp; first | done | with_reducible rfl)
          try simp only [nrm, Act.put]
          refine' wpAnyH_take (i := 1) (v := _) rfl (by kernel_rfl) (by kernel_rfl) (by kernel_rfl) (fun _ _ _ h => h) (Or.inl ⟨by rfl, ?hy9002⟩) hHeld ?hn9002
          case hy9002 => (intro wz hSw; (try dsimp only at hSw); go_simp; first | done | with_reducible rfl)
          try simp only [nrm, Act.put]
          refine' wpAnyH_take (i := 4) (v := _) rfl (by kernel_rfl) (by kernel_rfl) (by kernel_rfl) (fun _ _ _ h => h) (Or.inl ⟨by rfl, ?hy9003⟩) hHeld ?hn9003
          case hy9003 => (intro wz hSw; (try dsimp only at hSw); go_simp; first | done | with_reducible rfl)
          try simp only [nrm, Act.put]
          refine' wpAnyH_take (i := 5) (v := _) rfl (by kernel_rfl) (by kernel_rfl) (by kernel_rfl) (fun _ _ _ h => h) (Or.inl ⟨by rfl, ?hy9004⟩) hHeld ?hn9004
          case hy9004 => (intro wz hSw; (try dsimp only at hSw); go_simp; first | done | with_reducible rfl)
          try simp only [nrm, Act.put]
          refine wpAnyH_ready (rs := [2]) (by kernel_rfl) (by simp) ?_
          refine AllReadyH.cons rfl (fun K hK => ?_) AllReadyH.nil
          go_simp
          refine (count_any (RepP.rep (R1.out _ hHeld.2.2)) hc1).mono ?_; rintro e' w9 ⟨rfl, hbx⟩
          refine hK.out _ _ (⟨cell_later hbx hHeld.1, cell_later hbx hHeld.2.1, Below.then hHeld.2.2 hbx hHeld.2.2.size⟩) (fun hHeld => ?_)
          clear hK K
          refine' wpAnyH_take (i := 3) (v := _) rfl (by kernel_rfl) (by kernel_rfl) (by kernel_rfl) (fun _ _ _ h => h) (Or.inl ⟨by rfl, ?hy9005⟩) hHeld ?hn9005
          case hy9005 => (intro wz hSw; (try dsimp only at hSw); go_simp; first | done | with_reducible rfl)
          try simp only [nrm, Act.put]
          refine wpAnyH_ready (rs := [6]) (by kernel_rfl) (by simp) ?_
          refine AllReadyH.cons rfl (fun K hK => ?_) AllReadyH.nil
          go_simp
          refine (count_any (RepP.rep (R2.out _ hHeld.2.2)) hc2).mono ?_; rintro e' w9 ⟨rfl, hbx⟩
          refine hK.out _ _ (⟨cell_later hbx hHeld.1, cell_later hbx hHeld.2.1, Below.then hHeld.2.2 hbx hHeld.2.2.size⟩) (fun hHeld => ?_)
          clear hK K
          refine' wpAnyH_take (i := 7) (v := _) rfl (by kernel_rfl) (by kernel_rfl) (by kernel_rfl) (fun _ _ _ h => h) (Or.inl ⟨by rfl, ?hy9006⟩) hHeld ?hn9006
          case hy9006 => (intro wz hSw; (try dsimp only at hSw); go_simp; first | done | with_reducible rfl)
          try simp only [nrm, Act.put]
          refine' wpAnyH_take (i := 8) (v := _) rfl (by kernel_rfl) (by kernel_rfl) (by kernel_rfl) (fun _ _ _ h => h) (Or.inl ⟨by rfl, ?hy9007⟩) hHeld ?hn9007
          case hy9007 => (intro wz hSw; (try dsimp only at hSw); go_simp; first | done | with_reducible rfl)
          try simp only [nrm, Act.put]
          refine wpAnyH_done (by kernel_rfl) ?_ _
          clear x0 x1 x2 x3 x4 x5 x6 x7
          have B9 : Below X1.heap.size X1 w9 := hHeld.2.2
          have x6 := hHeld.1
          have x7 := hHeld.2.1
          have HG9 : Hid (C8 w9 wr.heap.size (.int .i64 p.k) (.int .i64 p.v) (.int .i64 p.vk) (.int .i64 p.va) (.int .i64 p.vb) (.int .i64 p.h) (.slice ta (ln d T1) tc) (.slice ea (ln d T2) ec)) := HG1.out.below B9
          have HB9 : Hid (Below X1.heap.size X1 w9) := B9
          have z9 : X1.heap.size ≤ w9.heap.size := B9.size
          have BW9 : Hid (Below w.heap.size w w9) := Below.then BX1.out B9 (by omega)
          have HR9 : Hid (RowP (fun b => (P b ∨ w.heap.size ≤ b) ∧ b < wr.heap.size) w9 d (.slice (some ⟨g, 0, none⟩) l'.length gc) l' ys) := HROW.out.frame (fun b pb hl => ⟨(B9.block b (by omega)).trans (HA1.out.block b hl), pb, hl⟩)
          have R19 : Hid (RepP (fun b => P b ∧ b < w.heap.size) w9 d (.slice ta (ln d T1) tc) T1) := R1.out _ B9
          have R29 : Hid (RepP (fun b => P b ∧ b < w.heap.size) w9 d (.slice ea (ln d T2) ec) T2) := R2.out _ B9
          clear hHeld B9 HROW HG1 HA1 BX1 R1 R2
          by_cases hpos : 0 < n
          · by_cases hls : n < 1 + (cnt d T1 : Int) + (cnt d T2 : Int)
            · have C1' : Hid _ := count_any (RepP.rep R19.out) hc1
              go_wp2_with fail
              go_at_call 36; refine Calls.mono C1'.out ?_; rintro e w10 ⟨rfl, hb10⟩
              clear C1'
              replace x6 := cell_later hb10 x6
              replace x7 := cell_later hb10 x7
              have z10 : w9.heap.size ≤ w10.heap.size := hb10.size
              have HG10 : Hid (C8 w10 wr.heap.size (.int .i64 p.k) (.int .i64 p.v) (.int .i64 p.vk) (.int .i64 p.va) (.int .i64 p.vb) (.int .i64 p.h) (.slice ta (ln d T1) tc) (.slice ea (ln d T2) ec)) := C8.below HG9.out hb10
              have BW10 : Hid (Below w.heap.size w w10) := Below.then BW9.out hb10 BW9.out.size
              have HR10 : Hid (RowP (fun b => (P b ∨ w.heap.size ≤ b) ∧ b < wr.heap.size) w10 d (.slice (some ⟨g, 0, none⟩) l'.length gc) l' ys) := HR9.out.frame (fun b pb hl => ⟨hb10.block b hl, pb⟩)
              have R110 : Hid (RepP (fun b => P b ∧ b < w.heap.size) w10 d (.slice ta (ln d T1) tc) T1) := R19.out.frame (fun b pb hl => ⟨hb10.block b hl, pb⟩)
              have R210 : Hid (RepP (fun b => P b ∧ b < w.heap.size) w10 d (.slice ea (ln d T2) ec) T2) := R29.out.frame (fun b pb hl => ⟨hb10.block b hl, pb⟩)
              clear hb10 HG9 BW9 HR9 R19 R29 HB9
              by_cases hin : n - 1 < (cnt d T1 : Int)
              · have CW : Hid _ := IH.out T1 (fun b => P b ∧ b < w.heap.size) (.slice ta (ln d T1) tc) (n - 1) w10 R110.out hc1 (by omega) (by omega)
                go_wp2_with fail
                go_at_call 57; refine Calls.mono CW.out ?_; rintro e w11 ⟨t', T1', rfl, hb11, rt, ct⟩
                obtain ⟨ta', tc', rfl⟩ := rt.slice
                clear CW
                have z11 : w10.heap.size ≤ w11.heap.size := hb11.size
                have G11 := C8.below HG10.out hb11
                obtain ⟨⟨y0, y1, y2, y3, y4, y5, y6, y7⟩, f0, f1, f2, f3, f4, f5, f6, f7⟩ := id G11
                have G12 := G11.set6 (.slice ta' (ln d T1') tc')
                have hst : ∀ b, b ≠ wr.heap.size → (w11.setCell ⟨wr.heap.size, 6, none⟩ (.slice ta' (ln d T1') tc')).heap[b]? = w11.heap[b]? := fun b hb => Below.heap_setCell _ _ _ _ hb
                have ROWY : RowP (fun b => P b ∨ w.heap.size ≤ b) (w11.setCell ⟨wr.heap.size, 6, none⟩ (.slice ta' (ln d T1') tc')) d (.slice (some ⟨g, 0, none⟩) l'.length gc) l' ys := HR10.out.frame (fun b pb hl => ⟨(hst b (by have := pb.2; omega)).trans (hb11.block b hl), pb.1⟩)
                have RN : RepP (fun b => (P b ∨ w.heap.size ≤ b) ∧ some b ≠ (Value.slice (some ⟨g, 0, none⟩) l'.length gc).ownBlock) (w11.setCell ⟨wr.heap.size, 6, none⟩ (.slice ta' (ln d T1') tc')) d (.slice ta' (ln d T1') tc') T1' := rt.frame (fun b pb hl => by
                  rcases pb with pb | pb
                  · exact ⟨hst b (by have := pb.2; omega), .inl pb.1, fun e => by have : b = g := Option.some.inj e; have := pb.2; omega⟩
                  · exact ⟨hst b (by omega), .inr (by omega), fun e => by have : b = g := Option.some.inj e; omega⟩)
                have RO : RepP (fun b => (P b ∨ w.heap.size ≤ b) ∧ some b ≠ (Value.slice (some ⟨g, 0, none⟩) l'.length gc).ownBlock) (w11.setCell ⟨wr.heap.size, 6, none⟩ (.slice ta' (ln d T1') tc')) d (.slice ea (ln d T2) ec) T2 := R210.out.frame (fun b pb hl => ⟨(hst b (by have := pb.2; omega)).trans (hb11.block b hl), .inl pb.1, fun e => by have : b = g := Option.some.inj e; have := pb.2; omega⟩)
                have BX : Below w.heap.size w (w11.setCell ⟨wr.heap.size, 6, none⟩ (.slice ta' (ln d T1') tc')) := (Below.then BW10.out hb11 BW10.out.size).setCell (by show w.heap.size ≤ wr.heap.size; omega) _
                clear x6 x7 hb11 rt
                go_upto_region 14 with fail
                clear y0 y1 y2 y3 y4 y5 y6 y7 f0 f1 f2 f3 f4 f5 f6 f7
                generalize (w11.setCell ⟨wr.heap.size, 6, none⟩ (.slice ta' (ln d T1') tc')) = w12 at G12 ROWY RN RO BX hst ⊢
                have ROWX : Hid (RowP (fun b => P b ∨ w.heap.size ≤ b) w12 d (.slice (some ⟨g, 0, none⟩) l'.length gc) l' ys) := ROWY
                have HG12 : Hid (C8 w12 wr.heap.size (.int .i64 p.k) (.int .i64 p.v) (.int .i64 p.vk) (.int .i64 p.va) (.int .i64 p.vb) (.int .i64 p.h) (.slice ta' (ln d T1') tc') (.slice ea (ln d T2) ec)) := G12
                have RR1 : Hid (RepP (fun b => (P b ∨ w.heap.size ≤ b) ∧ some b ≠ (Value.slice (some ⟨g, 0, none⟩) l'.length gc).ownBlock) w12 d (.slice ta' (ln d T1') tc') T1') := RN
                have RR2 : Hid (RepP (fun b => (P b ∨ w.heap.size ≤ b) ∧ some b ≠ (Value.slice (some ⟨g, 0, none⟩) l'.length gc).ownBlock) w12 d (.slice ea (ln d T2) ec) T2) := RO
                have BW12 : Hid (Below w.heap.size w w12) := BX
                clear ROWY G12 RN RO BX hst G11 HG10 HR10 R110 R210
                have ROW4 := ROWX.out
                have hwl := HG12.out
                obtain ⟨⟨x0, x1, x2, x3, x4, x5, x6, x7⟩, -⟩ := id hwl
                clear hwl
                go_wp2_with (at_builtin; refine wpList_append_own_at _ rfl _ _ 24 rfl 0 66 i0 _ 8 96 Tryz.underlying24 hi0 hz0 hz1 hz2 rfl (by decide) _ _ _ rfl (ROW4.1.alloc _) ⟨w12.heap.size, 0, none⟩ 1 1 (cells8 p (.slice ta' (ln d T1') tc') (.slice ea (ln d T2) ec)) rfl rfl ?c1 ?c2 ?c3 ?c4 ?c5 ?_)
                case c1 => first | exact cells8_new _ _ _ _ _ | exact fun j u h => h
                case c2 => exact cells8_one _ _ _ _ _ _ _
                case c3 => unfold maxLen; omega
                case c4 => omega
                try (case c5 => omega)
                intro v5 w5 own5 grow5 hn5 hat5
                have A5 : Below w12.heap.size w12 (w12.alloc (.cells (cells8 p (.slice ta' (ln d T1') tc') (.slice ea (ln d T2) ec)).toArray 66)) := (Below.refl _ _).alloc (Nat.le_refl _) _
                have zA5 : (w12.alloc (.cells (cells8 p (.slice ta' (ln d T1') tc') (.slice ea (ln d T2) ec)).toArray 66)).heap.size = w12.heap.size + 1 := by simp
                have RA := ROW4.frame (P' := fun b => P b ∨ w.heap.size ≤ b) (fun b pb hl => ⟨A5.block b hl, pb⟩)
                have hWz : w.heap.size ≤ w12.heap.size := BW12.out.size
                have PU := RowP.push RA (by rw [zA5]; exact .inr (by omega)) (p, T1', T2) own5 grow5 (by rw [zA5]; simpa using hat5) (RR1.out.frame (fun b pb hl => ⟨A5.block b hl, pb⟩)) (RR2.out.frame (fun b pb hl => ⟨A5.block b hl, pb⟩))
                have B5 : Below w.heap.size w w5 := (BW12.out.alloc hWz _).grown grow5 (by simp; omega) (fun j hj => by have : g = j := Option.some.inj hj; omega)
                have nn5 : v5 ≠ .slice none 0 0 := by intro e; have := hn5; simp [e] at this
                have zz5 : w12.heap.size < w5.heap.size := by have := grow5.size; simp at this; omega
                have hv5 : ∀ k, v5.ownBlock = some k → w.heap.size ≤ k := fun k hk => by
                  rcases hat5 with h | h
                  · rw [h] at hk; have : g = k := Option.some.inj hk; omega
                  · rw [h] at hk; have := Option.some.inj hk; (try simp at this); omega
                obtain ⟨g5, c5, hv5e, -, -⟩ := rowl_some own5 nn5
                subst hv5e
                have HPU : Hid _ := PU
                have HB5 : Hid (Below w.heap.size w w5) := B5
                have HG5 : Hid _ := hv5
                have HCN : Hid (cnt (d + 1) (l' ++ [(p, T1', T2)] : List (Pay × Tr d × Tr d)) ≤ cnt (d + 1) (l.take (i + 1) : List (Pay × Tr d × Tr d))) := (show cnt (d + 1) (l' ++ [(p, T1', T2)] : List (Pay × Tr d × Tr d)) ≤ cnt (d + 1) (l.take (i + 1) : List (Pay × Tr d × Tr d)) by rw [cnt_push, HQ1.out]; dsimp only; skip; have := HCL.out; omega)
                clear own5 grow5 hn5 hat5 A5 zA5 RA PU B5 nn5 hv5 ROW4 x0 x1 x2 x3 x4 x5 x6 x7
                go_wp2
                have hll : (l' ++ [(p, T1', T2)]).length = l'.length + 1 := by simp
                refine ⟨⟨i + 1, -1, l' ++ [(p, T1', T2)], ys ++ cells8 p (.slice ta' (ln d T1') tc') (.slice ea (ln d T2) ec), g5, c5, by omega, by omega, by omega, by simp, rfl, by rw [hll], HB5.out, ?_, HCN.out, by rw [hll]; omega, by have := HG5.out g5 rfl; omega⟩, by simp [intOf]; omega⟩
                rw [hll]
                exact HPU.out
              · have v4 := w64 (n - 1 - (cnt d T1 : Int)) (by omega)
                have CW : Hid _ := IH.out T2 (fun b => P b ∧ b < w.heap.size) (.slice ea (ln d T2) ec) (n - 1 - (cnt d T1 : Int)) w10 R210.out hc2 (by omega) (by omega)
                go_wp2_with fail
                go_at_call 57; refine Calls.mono CW.out ?_; rintro e w11 ⟨e', T2', rfl, hb11, rt, ct⟩
                obtain ⟨ea', ec', rfl⟩ := rt.slice
                clear CW
                have z11 : w10.heap.size ≤ w11.heap.size := hb11.size
                have G11 := C8.below HG10.out hb11
                obtain ⟨⟨y0, y1, y2, y3, y4, y5, y6, y7⟩, f0, f1, f2, f3, f4, f5, f6, f7⟩ := id G11
                have G12 := G11.set7 (.slice ea' (ln d T2') ec')
                have hst : ∀ b, b ≠ wr.heap.size → (w11.setCell ⟨wr.heap.size, 7, none⟩ (.slice ea' (ln d T2') ec')).heap[b]? = w11.heap[b]? := fun b hb => Below.heap_setCell _ _ _ _ hb
                have ROWY : RowP (fun b => P b ∨ w.heap.size ≤ b) (w11.setCell ⟨wr.heap.size, 7, none⟩ (.slice ea' (ln d T2') ec')) d (.slice (some ⟨g, 0, none⟩) l'.length gc) l' ys := HR10.out.frame (fun b pb hl => ⟨(hst b (by have := pb.2; omega)).trans (hb11.block b hl), pb.1⟩)
                have RN : RepP (fun b => (P b ∨ w.heap.size ≤ b) ∧ some b ≠ (Value.slice (some ⟨g, 0, none⟩) l'.length gc).ownBlock) (w11.setCell ⟨wr.heap.size, 7, none⟩ (.slice ea' (ln d T2') ec')) d (.slice ea' (ln d T2') ec') T2' := rt.frame (fun b pb hl => by
                  rcases pb with pb | pb
                  · exact ⟨hst b (by have := pb.2; omega), .inl pb.1, fun e => by have : b = g := Option.some.inj e; have := pb.2; omega⟩
                  · exact ⟨hst b (by omega), .inr (by omega), fun e => by have : b = g := Option.some.inj e; omega⟩)
                have RO : RepP (fun b => (P b ∨ w.heap.size ≤ b) ∧ some b ≠ (Value.slice (some ⟨g, 0, none⟩) l'.length gc).ownBlock) (w11.setCell ⟨wr.heap.size, 7, none⟩ (.slice ea' (ln d T2') ec')) d (.slice ta (ln d T1) tc) T1 := R110.out.frame (fun b pb hl => ⟨(hst b (by have := pb.2; omega)).trans (hb11.block b hl), .inl pb.1, fun e => by have : b = g := Option.some.inj e; have := pb.2; omega⟩)
                have BX : Below w.heap.size w (w11.setCell ⟨wr.heap.size, 7, none⟩ (.slice ea' (ln d T2') ec')) := (Below.then BW10.out hb11 BW10.out.size).setCell (by show w.heap.size ≤ wr.heap.size; omega) _
                clear x6 x7 hb11 rt
                go_upto_region 14 with fail
                clear y0 y1 y2 y3 y4 y5 y6 y7 f0 f1 f2 f3 f4 f5 f6 f7
                generalize (w11.setCell ⟨wr.heap.size, 7, none⟩ (.slice ea' (ln d T2') ec')) = w12 at G12 ROWY RN RO BX hst ⊢
                have ROWX : Hid (RowP (fun b => P b ∨ w.heap.size ≤ b) w12 d (.slice (some ⟨g, 0, none⟩) l'.length gc) l' ys) := ROWY
                have HG12 : Hid (C8 w12 wr.heap.size (.int .i64 p.k) (.int .i64 p.v) (.int .i64 p.vk) (.int .i64 p.va) (.int .i64 p.vb) (.int .i64 p.h) (.slice ta (ln d T1) tc) (.slice ea' (ln d T2') ec')) := G12
                have RR2 : Hid (RepP (fun b => (P b ∨ w.heap.size ≤ b) ∧ some b ≠ (Value.slice (some ⟨g, 0, none⟩) l'.length gc).ownBlock) w12 d (.slice ea' (ln d T2') ec') T2') := RN
                have RR1 : Hid (RepP (fun b => (P b ∨ w.heap.size ≤ b) ∧ some b ≠ (Value.slice (some ⟨g, 0, none⟩) l'.length gc).ownBlock) w12 d (.slice ta (ln d T1) tc) T1) := RO
                have BW12 : Hid (Below w.heap.size w w12) := BX
                clear ROWY G12 RN RO BX hst G11 HG10 HR10 R110 R210
                have ROW4 := ROWX.out
                have hwl := HG12.out
                obtain ⟨⟨x0, x1, x2, x3, x4, x5, x6, x7⟩, -⟩ := id hwl
                clear hwl
                go_wp2_with (at_builtin; refine wpList_append_own_at _ rfl _ _ 24 rfl 0 66 i0 _ 8 96 Tryz.underlying24 hi0 hz0 hz1 hz2 rfl (by decide) _ _ _ rfl (ROW4.1.alloc _) ⟨w12.heap.size, 0, none⟩ 1 1 (cells8 p (.slice ta (ln d T1) tc) (.slice ea' (ln d T2') ec')) rfl rfl ?c1 ?c2 ?c3 ?c4 ?c5 ?_)
                case c1 => first | exact cells8_new _ _ _ _ _ | exact fun j u h => h
                case c2 => exact cells8_one _ _ _ _ _ _ _
                case c3 => unfold maxLen; omega
                case c4 => omega
                try (case c5 => omega)
                intro v5 w5 own5 grow5 hn5 hat5
                have A5 : Below w12.heap.size w12 (w12.alloc (.cells (cells8 p (.slice ta (ln d T1) tc) (.slice ea' (ln d T2') ec')).toArray 66)) := (Below.refl _ _).alloc (Nat.le_refl _) _
                have zA5 : (w12.alloc (.cells (cells8 p (.slice ta (ln d T1) tc) (.slice ea' (ln d T2') ec')).toArray 66)).heap.size = w12.heap.size + 1 := by simp
                have RA := ROW4.frame (P' := fun b => P b ∨ w.heap.size ≤ b) (fun b pb hl => ⟨A5.block b hl, pb⟩)
                have hWz : w.heap.size ≤ w12.heap.size := BW12.out.size
                have PU := RowP.push RA (by rw [zA5]; exact .inr (by omega)) (p, T1, T2') own5 grow5 (by rw [zA5]; simpa using hat5) (RR1.out.frame (fun b pb hl => ⟨A5.block b hl, pb⟩)) (RR2.out.frame (fun b pb hl => ⟨A5.block b hl, pb⟩))
                have B5 : Below w.heap.size w w5 := (BW12.out.alloc hWz _).grown grow5 (by simp; omega) (fun j hj => by have : g = j := Option.some.inj hj; omega)
                have nn5 : v5 ≠ .slice none 0 0 := by intro e; have := hn5; simp [e] at this
                have zz5 : w12.heap.size < w5.heap.size := by have := grow5.size; simp at this; omega
                have hv5 : ∀ k, v5.ownBlock = some k → w.heap.size ≤ k := fun k hk => by
                  rcases hat5 with h | h
                  · rw [h] at hk; have : g = k := Option.some.inj hk; omega
                  · rw [h] at hk; have := Option.some.inj hk; (try simp at this); omega
                obtain ⟨g5, c5, hv5e, -, -⟩ := rowl_some own5 nn5
                subst hv5e
                have HPU : Hid _ := PU
                have HB5 : Hid (Below w.heap.size w w5) := B5
                have HG5 : Hid _ := hv5
                have HCN : Hid (cnt (d + 1) (l' ++ [(p, T1, T2')] : List (Pay × Tr d × Tr d)) ≤ cnt (d + 1) (l.take (i + 1) : List (Pay × Tr d × Tr d))) := (show cnt (d + 1) (l' ++ [(p, T1, T2')] : List (Pay × Tr d × Tr d)) ≤ cnt (d + 1) (l.take (i + 1) : List (Pay × Tr d × Tr d)) by rw [cnt_push, HQ1.out]; dsimp only; skip; have := HCL.out; omega)
                clear own5 grow5 hn5 hat5 A5 zA5 RA PU B5 nn5 hv5 ROW4 x0 x1 x2 x3 x4 x5 x6 x7
                go_wp2
                have hll : (l' ++ [(p, T1, T2')]).length = l'.length + 1 := by simp
                refine ⟨⟨i + 1, -1, l' ++ [(p, T1, T2')], ys ++ cells8 p (.slice ta (ln d T1) tc) (.slice ea' (ln d T2') ec'), g5, c5, by omega, by omega, by omega, by simp, rfl, by rw [hll], HB5.out, ?_, HCN.out, by rw [hll]; omega, by have := HG5.out g5 rfl; omega⟩, by simp [intOf]; omega⟩
                rw [hll]
                exact HPU.out
            · have v5 := w64 (n - (1 + (cnt d T1 : Int) + (cnt d T2 : Int))) (by omega)
              have ROWX : Hid (RowP (fun b => P b ∨ w.heap.size ≤ b) w9 d (.slice (some ⟨g, 0, none⟩) l'.length gc) l' ys) := HR9.out.frame (fun b pb hl => ⟨rfl, pb.1⟩)
              have RR1 : Hid (RepP (fun b => (P b ∨ w.heap.size ≤ b) ∧ some b ≠ (Value.slice (some ⟨g, 0, none⟩) l'.length gc).ownBlock) w9 d (.slice ta (ln d T1) tc) T1) := R19.out.frame (fun b pb hl => ⟨rfl, .inl pb.1, fun e => by have : b = g := Option.some.inj e; omega⟩)
              have RR2 : Hid (RepP (fun b => (P b ∨ w.heap.size ≤ b) ∧ some b ≠ (Value.slice (some ⟨g, 0, none⟩) l'.length gc).ownBlock) w9 d (.slice ea (ln d T2) ec) T2) := R29.out.frame (fun b pb hl => ⟨rfl, .inl pb.1, fun e => by have : b = g := Option.some.inj e; omega⟩)
              clear x6 x7 HR9 R19 R29
              have ROW4 := ROWX.out
              have hwl := HG9.out
              obtain ⟨⟨x0, x1, x2, x3, x4, x5, x6, x7⟩, -⟩ := id hwl
              clear hwl
              go_wp2_with (at_builtin; refine wpList_append_own_at _ rfl _ _ 24 rfl 0 66 i0 _ 8 96 Tryz.underlying24 hi0 hz0 hz1 hz2 rfl (by decide) _ _ _ rfl (ROW4.1.alloc _) ⟨w9.heap.size, 0, none⟩ 1 1 (cells8 p (.slice ta (ln d T1) tc) (.slice ea (ln d T2) ec)) rfl rfl ?c1 ?c2 ?c3 ?c4 ?c5 ?_)
              case c1 => first | exact cells8_new _ _ _ _ _ | exact fun j u h => h
              case c2 => exact cells8_one _ _ _ _ _ _ _
              case c3 => unfold maxLen; omega
              case c4 => omega
              try (case c5 => omega)
              intro v5 w5 own5 grow5 hn5 hat5
              have A5 : Below w9.heap.size w9 (w9.alloc (.cells (cells8 p (.slice ta (ln d T1) tc) (.slice ea (ln d T2) ec)).toArray 66)) := (Below.refl _ _).alloc (Nat.le_refl _) _
              have zA5 : (w9.alloc (.cells (cells8 p (.slice ta (ln d T1) tc) (.slice ea (ln d T2) ec)).toArray 66)).heap.size = w9.heap.size + 1 := by simp
              have RA := ROW4.frame (P' := fun b => P b ∨ w.heap.size ≤ b) (fun b pb hl => ⟨A5.block b hl, pb⟩)
              have hWz : w.heap.size ≤ w9.heap.size := BW9.out.size
              have PU := RowP.push RA (by rw [zA5]; exact .inr (by omega)) (p, T1, T2) own5 grow5 (by rw [zA5]; simpa using hat5) (RR1.out.frame (fun b pb hl => ⟨A5.block b hl, pb⟩)) (RR2.out.frame (fun b pb hl => ⟨A5.block b hl, pb⟩))
              have B5 : Below w.heap.size w w5 := (BW9.out.alloc hWz _).grown grow5 (by simp; omega) (fun j hj => by have : g = j := Option.some.inj hj; omega)
              have nn5 : v5 ≠ .slice none 0 0 := by intro e; have := hn5; simp [e] at this
              have zz5 : w9.heap.size < w5.heap.size := by have := grow5.size; simp at this; omega
              have hv5 : ∀ k, v5.ownBlock = some k → w.heap.size ≤ k := fun k hk => by
                rcases hat5 with h | h
                · rw [h] at hk; have : g = k := Option.some.inj hk; omega
                · rw [h] at hk; have := Option.some.inj hk; (try simp at this); omega
              obtain ⟨g5, c5, hv5e, -, -⟩ := rowl_some own5 nn5
              subst hv5e
              have HPU : Hid _ := PU
              have HB5 : Hid (Below w.heap.size w w5) := B5
              have HG5 : Hid _ := hv5
              have HCN : Hid (cnt (d + 1) (l' ++ [(p, T1, T2)] : List (Pay × Tr d × Tr d)) ≤ cnt (d + 1) (l.take (i + 1) : List (Pay × Tr d × Tr d))) := (show cnt (d + 1) (l' ++ [(p, T1, T2)] : List (Pay × Tr d × Tr d)) ≤ cnt (d + 1) (l.take (i + 1) : List (Pay × Tr d × Tr d)) by rw [cnt_push, HQ1.out]; dsimp only; skip; have := HCL.out; omega)
              clear own5 grow5 hn5 hat5 A5 zA5 RA PU B5 nn5 hv5 ROW4 x0 x1 x2 x3 x4 x5 x6 x7
              go_wp2
              have hll : (l' ++ [(p, T1, T2)]).length = l'.length + 1 := by simp
              refine ⟨⟨i + 1, n - (1 + (cnt d T1 : Int) + (cnt d T2 : Int)), l' ++ [(p, T1, T2)], ys ++ cells8 p (.slice ta (ln d T1) tc) (.slice ea (ln d T2) ec), g5, c5, by omega, by omega, by omega, by simp, rfl, by rw [hll], HB5.out, ?_, HCN.out, by rw [hll]; omega, by have := HG5.out g5 rfl; omega⟩, by simp [intOf]; omega⟩
              rw [hll]
              exact HPU.out
          · have ROWX : Hid (RowP (fun b => P b ∨ w.heap.size ≤ b) w9 d (.slice (some ⟨g, 0, none⟩) l'.length gc) l' ys) := HR9.out.frame (fun b pb hl => ⟨rfl, pb.1⟩)
            have RR1 : Hid (RepP (fun b => (P b ∨ w.heap.size ≤ b) ∧ some b ≠ (Value.slice (some ⟨g, 0, none⟩) l'.length gc).ownBlock) w9 d (.slice ta (ln d T1) tc) T1) := R19.out.frame (fun b pb hl => ⟨rfl, .inl pb.1, fun e => by have : b = g := Option.some.inj e; omega⟩)
            have RR2 : Hid (RepP (fun b => (P b ∨ w.heap.size ≤ b) ∧ some b ≠ (Value.slice (some ⟨g, 0, none⟩) l'.length gc).ownBlock) w9 d (.slice ea (ln d T2) ec) T2) := R29.out.frame (fun b pb hl => ⟨rfl, .inl pb.1, fun e => by have : b = g := Option.some.inj e; omega⟩)
            clear x6 x7 HR9 R19 R29
            have hneg : ¬ (1 + (cnt d T1 : Int) + (cnt d T2 : Int) ≤ n) := by omega
            have ROW4 := ROWX.out
            have hwl := HG9.out
            obtain ⟨⟨x0, x1, x2, x3, x4, x5, x6, x7⟩, -⟩ := id hwl
            clear hwl
            go_wp2_with (at_builtin; refine wpList_append_own_at _ rfl _ _ 24 rfl 0 66 i0 _ 8 96 Tryz.underlying24 hi0 hz0 hz1 hz2 rfl (by decide) _ _ _ rfl (ROW4.1.alloc _) ⟨w9.heap.size, 0, none⟩ 1 1 (cells8 p (.slice ta (ln d T1) tc) (.slice ea (ln d T2) ec)) rfl rfl ?c1 ?c2 ?c3 ?c4 ?c5 ?_)
            case c1 => first | exact cells8_new _ _ _ _ _ | exact fun j u h => h
            case c2 => exact cells8_one _ _ _ _ _ _ _
            case c3 => unfold maxLen; omega
            case c4 => omega
            try (case c5 => omega)
            intro v5 w5 own5 grow5 hn5 hat5
            have A5 : Below w9.heap.size w9 (w9.alloc (.cells (cells8 p (.slice ta (ln d T1) tc) (.slice ea (ln d T2) ec)).toArray 66)) := (Below.refl _ _).alloc (Nat.le_refl _) _
            have zA5 : (w9.alloc (.cells (cells8 p (.slice ta (ln d T1) tc) (.slice ea (ln d T2) ec)).toArray 66)).heap.size = w9.heap.size + 1 := by simp
            have RA := ROW4.frame (P' := fun b => P b ∨ w.heap.size ≤ b) (fun b pb hl => ⟨A5.block b hl, pb⟩)
            have hWz : w.heap.size ≤ w9.heap.size := BW9.out.size
            have PU := RowP.push RA (by rw [zA5]; exact .inr (by omega)) (p, T1, T2) own5 grow5 (by rw [zA5]; simpa using hat5) (RR1.out.frame (fun b pb hl => ⟨A5.block b hl, pb⟩)) (RR2.out.frame (fun b pb hl => ⟨A5.block b hl, pb⟩))
            have B5 : Below w.heap.size w w5 := (BW9.out.alloc hWz _).grown grow5 (by simp; omega) (fun j hj => by have : g = j := Option.some.inj hj; omega)
            have nn5 : v5 ≠ .slice none 0 0 := by intro e; have := hn5; simp [e] at this
            have zz5 : w9.heap.size < w5.heap.size := by have := grow5.size; simp at this; omega
            have hv5 : ∀ k, v5.ownBlock = some k → w.heap.size ≤ k := fun k hk => by
              rcases hat5 with h | h
              · rw [h] at hk; have : g = k := Option.some.inj hk; omega
              · rw [h] at hk; have := Option.some.inj hk; (try simp at this); omega
            obtain ⟨g5, c5, hv5e, -, -⟩ := rowl_some own5 nn5
            subst hv5e
            have HPU : Hid _ := PU
            have HB5 : Hid (Below w.heap.size w w5) := B5
            have HG5 : Hid _ := hv5
            have HCN : Hid (cnt (d + 1) (l' ++ [(p, T1, T2)] : List (Pay × Tr d × Tr d)) ≤ cnt (d + 1) (l.take (i + 1) : List (Pay × Tr d × Tr d))) := (show cnt (d + 1) (l' ++ [(p, T1, T2)] : List (Pay × Tr d × Tr d)) ≤ cnt (d + 1) (l.take (i + 1) : List (Pay × Tr d × Tr d)) by rw [cnt_push, HQ1.out]; dsimp only; skip; have := HCL.out; omega)
            clear own5 grow5 hn5 hat5 A5 zA5 RA PU B5 nn5 hv5 ROW4 x0 x1 x2 x3 x4 x5 x6 x7
            go_wp2
            have hll : (l' ++ [(p, T1, T2)]).length = l'.length + 1 := by simp
            refine ⟨⟨i + 1, n, l' ++ [(p, T1, T2)], ys ++ cells8 p (.slice ta (ln d T1) tc) (.slice ea (ln d T2) ec), g5, c5, by omega, by omega, by omega, by simp, rfl, by rw [hll], HB5.out, ?_, HCN.out, by rw [hll]; omega, by have := HG5.out g5 rfl; omega⟩, by simp [intOf]; omega⟩
            rw [hll]
            exact HPU.out
      · have : i = l.length := by omega
        subst this
        rw [List.take_length] at hcl
        have HROW : Hid (RepP (fun b => P b ∨ w.heap.size ≤ b) wr (d + 1) (.slice (some ⟨g, 0, none⟩) l'.length gc) (l' : List (Pay × Tr d × Tr d))) := hrow.repP
        have HBR : Hid (Below w.heap.size w wr) := hbr
        have HCL : Hid _ := hcl
        clear hrow hbr hcl
        go_wp2
        go_ret
        exact ⟨_, l', rfl, HBR.out, HROW.out, HCL.out⟩

end Go.Proofs.YthcgdhlemieboaaGreat

namespace Go.Proofs.YthcgdhlemieboaaGreat
open Go.RowKit
set_option linter.unusedSimpArgs false
set_option linter.unusedVariables false
attribute [local go_sem] World.cell?_alloc_some

theorem whyR_bd (ls : List (Int × Int)) (d : Nat) (T : Tr d) : 0 ≤ (whyR ls d T).1 ∧ (whyR ls d T).1 ≤ cnt d T := by
  unfold whyR
  split
  · split
    · rename_i i h
      have : i < (prs ls d T topL).length := by
        unfold badI at h
        rw [List.findIdx?_eq_some_iff_getElem] at h
        exact h.1
      rw [prs_length] at this
      exact ⟨by simp, by simp; omega⟩
    · simp
  · simp
def PgPost (w : World) (r k : Nat) (e : Ending) (w' : World) : Prop := ∃ (lv sv : Value) (ls : List (Int × Int)) (T : List (Pay × Tr 2 × Tr 2)), e = .returned (.agg #[lv, sv]) ∧ LRepP (fun b => w.heap.size ≤ b) w' lv ls ∧ RepP (fun b => w.heap.size ≤ b) w' 3 sv (T : List (Pay × Tr 2 × Tr 2)) ∧ (1 ≤ ls.length ∧ ls.length ≤ 4) ∧ cnt 3 (T : List (Pay × Tr 2 × Tr 2)) ≤ 292 ∧ Rd2 w' r k ∧ Oth r w w'
theorem LOwn.lrepP {P : Nat → Prop} {w : World} {s : Value} {ls : List (Int × Int)} {bs : List Nat} (h : LOwn w s ls bs) (hb : ∀ b ∈ bs, P b) : LRepP P w s ls := by
  rcases h with ⟨h0, ⟨a, c, rfl, hc⟩, rfl⟩ | ⟨h0, g, c, rfl, hlc, hcm, ht, rfl, hr⟩
  · exact ⟨a, c, by rw [h0], by omega, hc, fun i hi => by omega⟩
  · exact ⟨_, c, rfl, hlc, hcm, fun i hi => ⟨g, 0, rfl, hb g (by simp), by have := hr i hi 0 _ rfl; simpa using this, by have := hr i hi 1 _ rfl; simpa using this⟩⟩
theorem l71Prog_pg (w : World) (r m : Nat) (h : Rd2 w r m) (hm : m ≤ 50000000) : Calls Tryz.prog 10 #[.pointer (some ⟨r, 0, none⟩)] w (PgPost w r (m + 40000)) := by
  refine (l71Prog_any w r m h hm).mono ?_
  rintro e w2 ⟨lv, sv, ls, T, b1, b2, rfl, rd2, ot2, lo2, ow2, rg2, l1, l4, hc⟩
  exact ⟨lv, sv, ls, T, rfl, lo2.lrepP (fun b hb => (rg2 b (List.mem_append_left _ hb)).1), ow2.repP (fun b hb => (rg2 b (List.mem_append_right _ hb)).1), ⟨l1, l4⟩, hc, rd2, ot2⟩

structure Pb (w : World) (r : Nat) (x : World) (pb : Nat) (lv sv : Value) (ls : List (Int × Int)) (T : List (Pay × Tr 2 × Tr 2)) (k : Nat) : Prop where
  res : C2 x w.heap.size (.slice none 0 0) (.slice none 0 0)
  box : C2 x pb lv sv
  hp : w.heap.size < pb
  lab : LRepP (fun b => w.heap.size < b ∧ b ≠ pb) x lv ls
  st : RepP (fun b => w.heap.size < b ∧ b ≠ pb) x 3 sv (T : List (Pay × Tr 2 × Tr 2))
  ll : 1 ≤ ls.length ∧ ls.length ≤ 4
  cn : cnt 3 (T : List (Pay × Tr 2 × Tr 2)) ≤ 292
  rd : Rd2 x r k
  oth : Oth r w x
theorem Pb.on {w : World} {r : Nat} {x x' : World} {pb : Nat} {lv sv : Value} {ls : List (Int × Int)} {T : List (Pay × Tr 2 × Tr 2)} {k k' : Nat} (h : Pb w r x pb lv sv ls T k) (hr : r < w.heap.size) (hx : Oth r x x') (hrd : Rd2 x' r k') : Pb w r x' pb lv sv ls T k' := by
  have := h.hp
  exact ⟨h.res.oth hx (by omega), h.box.oth hx (by omega), h.hp, h.lab.frame (fun b p hl => ⟨hx.block b hl (by have := p.1; omega), p⟩), h.st.frame (fun b p hl => ⟨hx.block b hl (by have := p.1; omega), p⟩), h.ll, h.cn, hrd, h.oth.trans hx⟩
theorem Pb.of {w : World} {r : Nat} {w0 x : World} {lv sv : Value} {ls : List (Int × Int)} {T : List (Pay × Tr 2 × Tr 2)} {k : Nat} (hr : r < w.heap.size) (hw0 : w0 = w.alloc (.cells #[.slice none 0 0, .slice none 0 0] 26)) (hL : LRepP (fun b => w0.heap.size ≤ b) x lv ls) (hR : RepP (fun b => w0.heap.size ≤ b) x 3 sv (T : List (Pay × Tr 2 × Tr 2))) (ll : 1 ≤ ls.length ∧ ls.length ≤ 4) (cn : cnt 3 (T : List (Pay × Tr 2 × Tr 2)) ≤ 292) (rd : Rd2 x r k) (ot : Oth r w0 x) :
    Pb w r (x.alloc (.cells #[lv, sv] 26)) x.heap.size lv sv ls T k := by
  have z0 : w0.heap.size = w.heap.size + 1 := by rw [hw0]; simp
  have A : Below x.heap.size x (x.alloc (.cells #[lv, sv] 26)) := (Below.refl _ _).alloc (Nat.le_refl _) _
  have zx : w0.heap.size ≤ x.heap.size := ot.size
  have G0 : C2 w0 w.heap.size (.slice none 0 0) (.slice none 0 0) := by rw [hw0]; exact C2.new w _ _ _
  have O0 : Oth r w w0 := by rw [hw0]; exact (Oth.refl _ _).alloc _
  exact ⟨(G0.oth ot (by omega)).same (A.block _ (by omega)), C2.new x lv sv _, by omega, hL.frame (fun b p hl => ⟨A.block b hl, by omega, by omega⟩), hR.frame (fun b p hl => ⟨A.block b hl, by omega, by omega⟩), ll, cn, rd.oth A, (O0.trans ot).trans (Oth.of_below A)⟩
theorem Pb.steps {w : World} {r : Nat} {x x' : World} {pb : Nat} {lv sv sv' : Value} {ls : List (Int × Int)} {T T' : List (Pay × Tr 2 × Tr 2)} {k : Nat} (h : Pb w r x pb lv sv ls T k) (hr : r < w.heap.size) (hb : Below x.heap.size x x') (hR : RepP (fun b => (w.heap.size < b ∧ b ≠ pb) ∨ x.heap.size ≤ b) x' 3 sv' (T' : List (Pay × Tr 2 × Tr 2))) (cn : cnt 3 (T' : List (Pay × Tr 2 × Tr 2)) ≤ 292) : Pb w r (x'.setCell ⟨pb, 1, none⟩ sv') pb lv sv' ls T' k := by
  have h1 : Pb w r x' pb lv sv ls T k := h.on hr (Oth.of_below hb) (h.rd.oth hb)
  have hp := h.hp
  have hpl : pb < x.heap.size := World.block_lt_of_cell? _ _ h.box.1.1
  have hset : ∀ b, b ≠ pb → (x'.setCell ⟨pb, 1, none⟩ sv').heap[b]? = x'.heap[b]? := fun b hb => Below.heap_setCell _ _ _ _ hb
  exact ⟨h1.res.same (hset _ (by omega)), h1.box.set1 _, hp, h1.lab.frame (fun b p hl => ⟨hset b p.2, p⟩), hR.frame (fun b p hl => by
    rcases p with p | p
    · exact ⟨hset b p.2, p⟩
    · exact ⟨hset b (by omega), by omega, by omega⟩), h.ll, cn, h1.rd.same (fun n hn => hset n (by omega)), h1.oth.new (by show w.heap.size ≤ pb; omega) _⟩
theorem Pb.prog {w : World} {r : Nat} {x x' : World} {pb : Nat} {lv sv lv' sv' : Value} {ls ls' : List (Int × Int)} {T T' : List (Pay × Tr 2 × Tr 2)} {k k' : Nat} (h : Pb w r x pb lv sv ls T k) (hr : r < w.heap.size) (hx : Oth r x x') (hL : LRepP (fun b => x.heap.size ≤ b) x' lv' ls') (hR : RepP (fun b => x.heap.size ≤ b) x' 3 sv' (T' : List (Pay × Tr 2 × Tr 2))) (ll : 1 ≤ ls'.length ∧ ls'.length ≤ 4) (cn : cnt 3 (T' : List (Pay × Tr 2 × Tr 2)) ≤ 292) (rd : Rd2 x' r k') : Pb w r ((x'.setCell ⟨pb, 0, none⟩ lv').setCell ⟨pb, 1, none⟩ sv') pb lv' sv' ls' T' k' := by
  have h1 : Pb w r x' pb lv sv ls T k' := h.on hr hx rd
  have hp := h.hp
  have hpl : pb < x.heap.size := World.block_lt_of_cell? _ _ h.box.1.1
  have hset : ∀ b, b ≠ pb → ((x'.setCell ⟨pb, 0, none⟩ lv').setCell ⟨pb, 1, none⟩ sv').heap[b]? = x'.heap[b]? := fun b hb => (Below.heap_setCell _ _ _ _ hb).trans (Below.heap_setCell _ _ _ _ hb)
  exact ⟨h1.res.same (hset _ (by omega)), (h1.box.set0 _).set1 _, hp, hL.frame (fun b p hl => ⟨hset b (by omega), by omega, by omega⟩), hR.frame (fun b p hl => ⟨hset b (by omega), by omega, by omega⟩), ll, cn, h1.rd.same (fun n hn => hset n (by omega)), (h1.oth.new (by show w.heap.size ≤ pb; omega) _).new (by show w.heap.size ≤ pb; omega) _⟩
theorem Pb.fin {w : World} {r : Nat} {x : World} {pb : Nat} {lv sv : Value} {ls : List (Int × Int)} {T : List (Pay × Tr 2 × Tr 2)} {k : Nat} (h : Pb w r x pb lv sv ls T k) (hr : r < w.heap.size) : C2 ((x.setCell ⟨w.heap.size, 0, none⟩ lv).setCell ⟨w.heap.size, 1, none⟩ sv) w.heap.size lv sv ∧ PgPost w r k (.returned (.agg #[lv, sv])) ((x.setCell ⟨w.heap.size, 0, none⟩ lv).setCell ⟨w.heap.size, 1, none⟩ sv) := by
  have hset : ∀ b, b ≠ w.heap.size → ((x.setCell ⟨w.heap.size, 0, none⟩ lv).setCell ⟨w.heap.size, 1, none⟩ sv).heap[b]? = x.heap[b]? := fun b hb => (Below.heap_setCell _ _ _ _ hb).trans (Below.heap_setCell _ _ _ _ hb)
  exact ⟨(h.res.set0 lv).set1 sv, lv, sv, ls, T, rfl, h.lab.frame (fun b p hl => ⟨hset b (by omega), by omega⟩), h.st.frame (fun b p hl => ⟨hset b (by omega), by omega⟩), h.ll, h.cn, h.rd.same (fun n hn => hset n (by omega)), (h.oth.new (Nat.le_refl _) _).new (Nat.le_refl _) _⟩

set_option maxHeartbeats 4000000 in
set_option maxRecDepth 20000 in
theorem l71Fine_any (w : World) (r m : Nat) (h : Rd2 w r m) (hm : m ≤ 50000000) : Calls Tryz.prog 32 #[.pointer (some ⟨r, 0, none⟩)] w (PgPost w r (m + 40000)) := by
  have hlt := h.lt
  obtain ⟨w0, hw0⟩ : ∃ w0, w0 = w.alloc (.cells #[.slice none 0 0, .slice none 0 0] 26) := ⟨_, rfl⟩
  have HW0 : Hid _ := hw0
  have C1 : Hid _ := l71Prog_pg w0 r m (by rw [hw0]; exact h.oth ((Below.refl _ _).alloc (Nat.le_refl _) _)) hm
  clear hw0 h
  go_enter Tryz.func32, Tryz.ntmps32
  go_wp2_with fail
  rw [← HW0.out]
  go_at_call 10; refine Calls.mono C1.out ?_
  rintro e x ⟨lv, sv, ls, T, rfl, hL, hR, ll, cn, rd, ot⟩
  have PB := Pb.of hlt HW0.out hL hR ll cn rd ot
  obtain ⟨la, lc, rfl, -⟩ := hL.rep
  obtain ⟨sa, sc, rfl⟩ := hR.slice
  have H0 : Hid _ := PB
  clear hL hR ll cn rd ot PB C1 HW0
  go_wp2
  go_loopw [4] (fun j wr => ∃ (i : Nat) (lv sv : Value) (ls : List (Int × Int)) (T : List (Pay × Tr 2 × Tr 2)), i ≤ 6 ∧ j = .int .i64 i ∧ Pb w r wr x.heap.size lv sv ls T (m + 40000)) (fun j _ => 6 - (intOf j).toNat)
  case atStart => exact ⟨0, _, _, _, _, by omega, rfl, H0.out⟩
  case round =>
    clear H0
    obtain ⟨i, lv, sv, ls', T', hi, rfl, hP⟩ := hrel
    obtain ⟨la', lc', hla, -⟩ := id hP.lab.rep
    obtain ⟨sa', sc', hsa⟩ := hP.st.slice
    subst hla hsa
    obtain ⟨⟨b0, b1⟩, f0, f1⟩ := hP.box
    obtain ⟨⟨r0, r1⟩, g0, g1⟩ := hP.res
    have HP : Hid (Pb w r wr x.heap.size (.slice la' ls'.length lc') (.slice sa' (ln 3 (T' : List (Pay × Tr 2 × Tr 2))) sc') ls' T' (m + 40000)) := hP
    have hcn := hP.cn
    have CW : Hid _ := sTypeWhy_any hP.lab.rep hP.st.rep (by omega)
    have hbd := whyR_bd ls' 3 (T' : List (Pay × Tr 2 × Tr 2))
    clear hP
    by_cases h6 : (i : Int) < 6
    · go_wp2_with fail
      go_at_call 56; refine Calls.mono CW.out ?_; rintro e x1 ⟨rfl, hb1⟩
      generalize (whyR ls' 3 (T' : List (Pay × Tr 2 × Tr 2))).1 = n1 at hbd ⊢
      generalize (whyR ls' 3 (T' : List (Pay × Tr 2 × Tr 2))).2 = n2
      have hP1 : Pb w r x1 x.heap.size (.slice la' ls'.length lc') (.slice sa' (ln 3 (T' : List (Pay × Tr 2 × Tr 2))) sc') ls' T' (m + 40000) := HP.out.on hlt (Oth.of_below hb1) (HP.out.rd.oth hb1)
      have HP1 : Hid (Pb w r x1 x.heap.size (.slice la' ls'.length lc') (.slice sa' (ln 3 (T' : List (Pay × Tr 2 × Tr 2))) sc') ls' T' (m + 40000)) := hP1
      clear b0 b1 f0 f1 r0 r1 g0 g1 hb1 CW HP
      obtain ⟨⟨b0, b1⟩, f0, f1⟩ := hP1.box
      obtain ⟨⟨r0, r1⟩, g0, g1⟩ := hP1.res
      clear hP1
      cases n2
      · go_wp2
        obtain ⟨F1, F2⟩ := HP1.out.fin hlt
        have HF2 : Hid _ := F2
        obtain ⟨⟨q0, q1⟩, -⟩ := F1
        exact bodyPost_ret (v := .agg #[_, _]) (by simp [results, Tryz.results32, go_sem, q0, q1] <;> exact ⟨rfl, rfl⟩) rfl HF2.out
      · have CX : Hid _ := l71Without_any 3 (T' : List (Pay × Tr 2 × Tr 2)) _ _ n1 x1 HP1.out.st (by omega) (by omega) (by omega)
        go_wp2_with fail
        go_at_call 57; refine Calls.mono CX.out ?_; rintro e x2 ⟨v2, T2, rfl, hb2, hR2, hc2⟩
        have hP3 := HP1.out.steps hlt hb2 (T' := T2) hR2 (by omega)
        obtain ⟨sa2, sc2, hs2⟩ := hR2.slice
        subst hs2
        have HP3 : Hid _ := hP3
        have kb : x2.heap[x.heap.size]? = x1.heap[x.heap.size]? := hb2.block _ (World.block_lt_of_cell? _ _ b0)
        replace b0 := (World.cell?_of_block (a := ⟨x.heap.size, 0, none⟩) kb).trans b0
        replace b1 := (World.cell?_of_block (a := ⟨x.heap.size, 1, none⟩) kb).trans b1
        replace f1 := (World.frozen?_of_block (a := ⟨x.heap.size, 1, none⟩) kb).trans f1
        clear hP3 hR2 hb2 kb r0 r1 g0 g1 f0
        go_wp2
        exact ⟨⟨i + 1, _, _, _, _, by omega, by simp, HP3.out⟩, by simp [intOf]; omega⟩
    · go_wp2
      obtain ⟨F1, F2⟩ := HP.out.fin hlt
      have HF2 : Hid _ := F2
      obtain ⟨⟨q0, q1⟩, -⟩ := F1
      exact bodyPost_ret (v := .agg #[_, _]) (by simp [results, Tryz.results32, go_sem, q0, q1] <;> exact ⟨rfl, rfl⟩) rfl HF2.out

def AnPost (w : World) (r k : Nat) (e : Ending) (w' : World) : Prop := ∃ (lv sv : Value) (ls : List (Int × Int)) (d : Nat) (l : List (Pay × Tr d × Tr d)), e = .returned (.agg #[lv, sv]) ∧ LRepP (fun b => w.heap.size ≤ b) w' lv ls ∧ RepP (fun b => w.heap.size ≤ b) w' (d + 1) sv (l : List (Pay × Tr d × Tr d)) ∧ (1 ≤ ls.length ∧ ls.length ≤ 8) ∧ cnt (d + 1) (l : List (Pay × Tr d × Tr d)) ≤ 400 ∧ Rd2 w' r k ∧ Oth r w w'

set_option maxHeartbeats 4000000 in
set_option maxRecDepth 20000 in
theorem l71Any_any (w : World) (r m : Nat) (h : Rd2 w r m) (hm : m ≤ 9000000) : Calls Tryz.prog 12 #[.pointer (some ⟨r, 0, none⟩)] w (AnPost w r (m + 80006)) := by
  have hlt := h.lt
  obtain ⟨w0, hw0⟩ : ∃ w0, w0 = w.alloc (.cells #[.slice none 0 0, .slice none 0 0] 26) := ⟨_, rfl⟩
  have HW0 : Hid _ := hw0
  have C1 : Hid _ := l71Prog_pg w0 r m (by rw [hw0]; exact h.oth ((Below.refl _ _).alloc (Nat.le_refl _) _)) (by omega)
  clear hw0 h
  go_enter Tryz.func12, Tryz.ntmps12
  go_wp2_with fail
  rw [← HW0.out]
  go_at_call 10; refine Calls.mono C1.out ?_
  rintro e x ⟨lv, sv, ls, T, rfl, hL, hR, ll, cn, rd, ot⟩
  have PB := Pb.of hlt HW0.out hL hR ll cn rd ot
  obtain ⟨la, lc, rfl, -⟩ := hL.rep
  obtain ⟨sa, sc, rfl⟩ := hR.slice
  obtain ⟨y, hy⟩ : ∃ y, y = x.alloc (.cells #[.slice la ls.length lc, .slice sa (ln 3 (T : List (Pay × Tr 2 × Tr 2))) sc] 26) := ⟨_, rfl⟩
  have HY : Hid _ := hy
  obtain ⟨pb, hpb⟩ : ∃ n, n = x.heap.size := ⟨_, rfl⟩
  rw [← hy, ← hpb] at PB
  have H0 : Hid (Pb w r y pb (.slice la ls.length lc) (.slice sa (ln 3 (T : List (Pay × Tr 2 × Tr 2))) sc) ls T (m + 40000)) := PB
  have P0 : Hid _ := pick2 y r (m + 40000) 3 PB.rd (by omega) (by omega) (by omega)
  have HPB : Hid _ := hpb
  clear hL hR ll cn rd ot PB C1 HW0 hy hpb
  go_wp2_with fail
  rw [← HY.out, ← HPB.out]
  clear HY HPB x
  go_at_call 11; refine Calls.mono P0.out ?_
  rintro e y1 ⟨k1, rfl, k10, k13, rd1, ot1⟩
  have hP1 := H0.out.on hlt ot1 rd1
  clear P0 H0 rd1 ot1
  have EXT : Hid (∀ (z : World) (lv sv : Value) (ls : List (Int × Int)) (T : List (Pay × Tr 2 × Tr 2)), Pb w r z pb lv sv ls T (m + 80002) → C2 ((z.setCell ⟨w.heap.size, 0, none⟩ lv).setCell ⟨w.heap.size, 1, none⟩ sv) w.heap.size lv sv ∧ AnPost w r (m + 80006) (.returned (.agg #[lv, sv])) ((z.setCell ⟨w.heap.size, 0, none⟩ lv).setCell ⟨w.heap.size, 1, none⟩ sv)) := (show ∀ (z : World) (lv sv : Value) (ls : List (Int × Int)) (T : List (Pay × Tr 2 × Tr 2)), _ from fun z lv sv ls T hP => by
    obtain ⟨F1, lv', sv', ls', T', he, hL, hR, ll, cn, rd, ot⟩ := hP.fin hlt
    exact ⟨F1, lv', sv', ls', 2, T', he, hL, hR, ⟨ll.1, by omega⟩, Nat.le_trans cn (by omega), rd.mono (by omega), ot⟩)
  by_cases hk : 0 < k1
  · have HP1 : Hid (Pb w r y1 pb (.slice la ls.length lc) (.slice sa (ln 3 (T : List (Pay × Tr 2 × Tr 2))) sc) ls T (m + 40001)) := hP1
    have C2' : Hid _ := l71Fine_any y1 r (m + 40001) hP1.rd (by omega)
    clear hP1
    go_wp2_with fail
    go_at_call 32; refine Calls.mono C2'.out ?_
    rintro e y2 ⟨lv, sv, ls2, T2, rfl, hL, hR, ll, cn, rd, ot⟩
    have hP2 := HP1.out.prog hlt ot hL hR ll cn rd
    obtain ⟨⟨b0, b1⟩, f0, f1⟩ := HP1.out.box.oth ot (by have := HP1.out.hp; omega)
    obtain ⟨la2, lc2, rfl, -⟩ := hL.rep
    obtain ⟨sa2, sc2, rfl⟩ := hR.slice
    clear hL hR ll cn rd ot C2' HP1
    go_upto_region 4 with fail
    generalize ((y2.setCell ⟨pb, 0, none⟩ (.slice la2 ls2.length lc2)).setCell ⟨pb, 1, none⟩ (.slice sa2 (ln 3 (T2 : List (Pay × Tr 2 × Tr 2))) sc2)) = y3 at hP2 ⊢
    clear b0 b1 f0 f1
    have P4 : Hid _ := pick2 y3 r (m + 80001) 16 hP2.rd (by omega) (by omega) (by omega)
    have HP2 : Hid (Pb w r y3 pb (.slice la2 ls2.length lc2) (.slice sa2 (ln 3 (T2 : List (Pay × Tr 2 × Tr 2))) sc2) ls2 T2 (m + 80001)) := hP2
    clear hP2
    go_wp2_with fail
    go_at_call 11; refine Calls.mono P4.out ?_
    rintro e y4 ⟨k4, rfl, k40, k416, rd4, ot4⟩
    have hP4 := HP2.out.on hlt ot4 rd4
    have HP4 : Hid (Pb w r y4 pb (.slice la2 ls2.length lc2) (.slice sa2 (ln 3 (T2 : List (Pay × Tr 2 × Tr 2))) sc2) ls2 T2 (m + 80002)) := hP4
    clear HP2 P4 rd4 ot4
    obtain ⟨⟨b0, b1⟩, f0, f1⟩ := hP4.box
    obtain ⟨⟨r0, r1⟩, g0, g1⟩ := hP4.res
    clear hP4
    by_cases hk4 : k4 = 0
    · subst hk4
      have CB : Hid _ := l71Bent_any y4 r (m + 80002) _ _ _ _ HP4.out.rd (by omega) HP4.out.lab.rep HP4.out.st.rep HP4.out.ll.1 HP4.out.ll.2 HP4.out.cn
      go_wp2_with fail
      go_at_call 33; refine Calls.mono CB.out ?_
      rintro e y5 ⟨lv5, sv5, ls5, d5, l5, rfl, hL5, hR5, ll5, cn5, rd5, ot5⟩
      have G5 := HP4.out.res.oth ot5 (by omega)
      have z4 : w.heap.size < y4.heap.size := World.block_lt_of_cell? _ _ HP4.out.res.1.1
      have O5 : Oth r w y5 := HP4.out.oth.trans ot5
      obtain ⟨la5, lc5, rfl, -⟩ := hL5.rep
      obtain ⟨sa5, sc5, rfl⟩ := hR5.slice
      have FF : AnPost w r (m + 80006) (.returned (.agg #[.slice la5 ls5.length lc5, .slice sa5 (ln (d5 + 1) (l5 : List (Pay × Tr d5 × Tr d5))) sc5])) ((y5.setCell ⟨w.heap.size, 0, none⟩ (.slice la5 ls5.length lc5)).setCell ⟨w.heap.size, 1, none⟩ (.slice sa5 (ln (d5 + 1) (l5 : List (Pay × Tr d5 × Tr d5))) sc5)) := by
        have hset : ∀ b, b ≠ w.heap.size → ((y5.setCell ⟨w.heap.size, 0, none⟩ (.slice la5 ls5.length lc5)).setCell ⟨w.heap.size, 1, none⟩ (.slice sa5 (ln (d5 + 1) (l5 : List (Pay × Tr d5 × Tr d5))) sc5)).heap[b]? = y5.heap[b]? := fun b hb => (Below.heap_setCell _ _ _ _ hb).trans (Below.heap_setCell _ _ _ _ hb)
        exact ⟨_, _, ls5, d5, l5, rfl, hL5.frame (fun b p hl => ⟨hset b (by omega), by omega⟩), hR5.frame (fun b p hl => ⟨hset b (by omega), by omega⟩), ll5, cn5, (rd5.same (fun n hn => hset n (by omega))).mono (by omega), (O5.new (Nat.le_refl _) _).new (Nat.le_refl _) _⟩
      have HFF : Hid _ := FF
      have GG : Hid _ := (C2.set0 (.slice la5 ls5.length lc5) G5).set1 (.slice sa5 (ln (d5 + 1) (l5 : List (Pay × Tr d5 × Tr d5))) sc5)
      obtain ⟨⟨r0', r1'⟩, g0', g1'⟩ := G5
      clear hL5 hR5 ll5 cn5 rd5 ot5 O5 CB FF b0 b1 f0 f1 r0 r1 g0 g1
      go_wp2
      obtain ⟨⟨q0, q1⟩, -⟩ := GG.out
      exact bodyPost_ret (v := .agg #[_, _]) (by simp [results, Tryz.results12, go_sem, q0, q1] <;> exact ⟨rfl, rfl⟩) rfl HFF.out
    · have HF : Hid _ := EXT.out y4 _ _ _ _ (HP4.out.on hlt (Oth.refl _ _) (HP4.out.rd.mono (by omega)))
      go_wp2
      obtain ⟨⟨⟨q0, q1⟩, -⟩, F2⟩ := HF.out
      exact bodyPost_ret (v := .agg #[_, _]) (by simp [results, Tryz.results12, go_sem, q0, q1] <;> exact ⟨rfl, rfl⟩) rfl F2
  · have hP2 : Pb w r y1 pb (.slice la ls.length lc) (.slice sa (ln 3 (T : List (Pay × Tr 2 × Tr 2))) sc) ls T (m + 80001) := hP1.on hlt (Oth.refl _ _) (hP1.rd.mono (by omega))
    clear hP1
    go_upto_region 4 with fail
    have P4 : Hid _ := pick2 y1 r (m + 80001) 16 hP2.rd (by omega) (by omega) (by omega)
    have HP2 : Hid (Pb w r y1 pb (.slice la ls.length lc) (.slice sa (ln 3 (T : List (Pay × Tr 2 × Tr 2))) sc) ls T (m + 80001)) := hP2
    clear hP2
    go_wp2_with fail
    go_at_call 11; refine Calls.mono P4.out ?_
    rintro e y4 ⟨k4, rfl, k40, k416, rd4, ot4⟩
    have hP4 := HP2.out.on hlt ot4 rd4
    have HP4 : Hid (Pb w r y4 pb (.slice la ls.length lc) (.slice sa (ln 3 (T : List (Pay × Tr 2 × Tr 2))) sc) ls T (m + 80002)) := hP4
    clear HP2 P4 rd4 ot4
    obtain ⟨⟨b0, b1⟩, f0, f1⟩ := hP4.box
    obtain ⟨⟨r0, r1⟩, g0, g1⟩ := hP4.res
    clear hP4
    by_cases hk4 : k4 = 0
    · subst hk4
      have CB : Hid _ := l71Bent_any y4 r (m + 80002) _ _ _ _ HP4.out.rd (by omega) HP4.out.lab.rep HP4.out.st.rep HP4.out.ll.1 HP4.out.ll.2 HP4.out.cn
      go_wp2_with fail
      go_at_call 33; refine Calls.mono CB.out ?_
      rintro e y5 ⟨lv5, sv5, ls5, d5, l5, rfl, hL5, hR5, ll5, cn5, rd5, ot5⟩
      have G5 := HP4.out.res.oth ot5 (by omega)
      have z4 : w.heap.size < y4.heap.size := World.block_lt_of_cell? _ _ HP4.out.res.1.1
      have O5 : Oth r w y5 := HP4.out.oth.trans ot5
      obtain ⟨la5, lc5, rfl, -⟩ := hL5.rep
      obtain ⟨sa5, sc5, rfl⟩ := hR5.slice
      have FF : AnPost w r (m + 80006) (.returned (.agg #[.slice la5 ls5.length lc5, .slice sa5 (ln (d5 + 1) (l5 : List (Pay × Tr d5 × Tr d5))) sc5])) ((y5.setCell ⟨w.heap.size, 0, none⟩ (.slice la5 ls5.length lc5)).setCell ⟨w.heap.size, 1, none⟩ (.slice sa5 (ln (d5 + 1) (l5 : List (Pay × Tr d5 × Tr d5))) sc5)) := by
        have hset : ∀ b, b ≠ w.heap.size → ((y5.setCell ⟨w.heap.size, 0, none⟩ (.slice la5 ls5.length lc5)).setCell ⟨w.heap.size, 1, none⟩ (.slice sa5 (ln (d5 + 1) (l5 : List (Pay × Tr d5 × Tr d5))) sc5)).heap[b]? = y5.heap[b]? := fun b hb => (Below.heap_setCell _ _ _ _ hb).trans (Below.heap_setCell _ _ _ _ hb)
        exact ⟨_, _, ls5, d5, l5, rfl, hL5.frame (fun b p hl => ⟨hset b (by omega), by omega⟩), hR5.frame (fun b p hl => ⟨hset b (by omega), by omega⟩), ll5, cn5, (rd5.same (fun n hn => hset n (by omega))).mono (by omega), (O5.new (Nat.le_refl _) _).new (Nat.le_refl _) _⟩
      have HFF : Hid _ := FF
      have GG : Hid _ := (C2.set0 (.slice la5 ls5.length lc5) G5).set1 (.slice sa5 (ln (d5 + 1) (l5 : List (Pay × Tr d5 × Tr d5))) sc5)
      obtain ⟨⟨r0', r1'⟩, g0', g1'⟩ := G5
      clear hL5 hR5 ll5 cn5 rd5 ot5 O5 CB FF b0 b1 f0 f1 r0 r1 g0 g1
      go_wp2
      obtain ⟨⟨q0, q1⟩, -⟩ := GG.out
      exact bodyPost_ret (v := .agg #[_, _]) (by simp [results, Tryz.results12, go_sem, q0, q1] <;> exact ⟨rfl, rfl⟩) rfl HFF.out
    · have HF : Hid _ := EXT.out y4 _ _ _ _ (HP4.out.on hlt (Oth.refl _ _) (HP4.out.rd.mono (by omega)))
      go_wp2
      obtain ⟨⟨⟨q0, q1⟩, -⟩, F2⟩ := HF.out
      exact bodyPost_ret (v := .agg #[_, _]) (by simp [results, Tryz.results12, go_sem, q0, q1] <;> exact ⟨rfl, rfl⟩) rfl F2

end Go.Proofs.YthcgdhlemieboaaGreat
