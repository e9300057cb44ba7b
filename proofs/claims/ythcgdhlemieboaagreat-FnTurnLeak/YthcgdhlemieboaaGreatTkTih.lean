/- The program's steps whose hosts are named otherwise. -/
import Derived.Test.YthcgdhlemieboaaGreatTkTia
namespace Go.Proofs.YthcgdhlemieboaaGreat
open Go.RowKit
set_option linter.unusedSimpArgs false
set_option linter.unusedVariables false
attribute [local go_sem] World.cell?_alloc_some

set_option maxHeartbeats 16000000 in
set_option maxRecDepth 20000 in
theorem hostsTurned_of (zs : List Int) {n : Nat} (k : Nat) (T1 T2 : Tr k) (p : Pay) (ta ea : Option Addr) (lt tc le ec : Nat) (ra : Option Addr) (rc : Nat) (w : World) (hz : zs.length = 3) (hpos : 0 < zs.length) (hp : okP n p) (hN : GRep (Value.int .i64) w (.slice ra zs.length rc) zs)
    (c1 : ∀ wx, Below w.heap.size w wx → Tf 28 29 (hostF zs) (.slice ra zs.length rc) k T1 wx (.slice ta lt tc)) (c2 : ∀ wx, Below w.heap.size w wx → Tf 28 29 (hostF zs) (.slice ra zs.length rc) k T2 wx (.slice ea le ec)) :
    Sf 29 (hostF zs) (.slice ra zs.length rc) k p (.slice ta lt tc) (.slice ea le ec) T1 T2 w := by
  unfold Sf payV
  obtain ⟨_, _, he, _, _, hrow⟩ := hN
  obtain ⟨rb, ro, hra, hr0⟩ := hrow 0 hpos
  cases he
  subst hra
  have hrlt : rb < w.heap.size := World.block_lt_of_cell? _ _ hr0
  have RC : Hid (∀ m (hm : m < zs.length) wx, Below w.heap.size w wx → wx.cell? ⟨rb, ro + m, none⟩ = some (.int .i64 zs[m])) := (show ∀ m (hm : m < zs.length) wx, _ from fun m hm wx hb => by
    obtain ⟨b, off, he, hc⟩ := hrow m hm
    cases he
    exact cell_later hb hc)
  have B00 : Hid (Below w.heap.size w w) := Below.refl _ _
  have HZ : Hid _ := hz
  have rne : ¬ rb = w.heap.size := by omega
  have rne' : ¬ w.heap.size = rb := by omega
  have C1 : Hid _ := c1
  have C2 : Hid _ := c2
  obtain ⟨U1, hU1⟩ : ∃ U, mapT (hostF zs) k T1 = U := ⟨_, rfl⟩
  obtain ⟨U2, hU2⟩ : ∃ U, mapT (hostF zs) k T2 = U := ⟨_, rfl⟩
  have HU1 : Hid _ := hU1
  have HU2 : Hid _ := hU2
  clear c1 c2 hrow hr0 hz hU1 hU2
  obtain ⟨pk, pv, pvk, pva, pvb, ph⟩ := p
  by_cases hk : pk = 3
  · subst hk
    have hh := okP_host hp rfl
    dsimp only at hh
    obtain ⟨m, rfl⟩ := Int.eq_ofNat_of_zero_le hh.1
    have hm : m < zs.length := by rw [HZ.out]; omega
    have c0 := RC.out m hm w B00.out
    have hg : zs.getD m 0 = zs[m] := by simp [List.getD_eq_getElem?_getD, List.getElem?_eq_getElem hm]
    have HG : Hid _ := hg
    have m0 : (0 : Int) ≤ (m : Int) := by omega
    have m1 : (m : Int) < (zs.length : Int) := by omega
    clear hg
    generalize zs[m] = y at *
    have HF : Hid (hostF zs ⟨3, pv, pvk, pva, pvb, (m : Int)⟩ = ⟨3, pv, pvk, pva, pvb, y⟩) := (show hostF zs ⟨3, pv, pvk, pva, pvb, (m : Int)⟩ = ⟨3, pv, pvk, pva, pvb, y⟩ by unfold hostF; rw [if_pos rfl]; show Pay.mk 3 pv pvk pva pvb (zs.getD m 0) = _; rw [HG.out])
    go_enter Tryz.func29, Tryz.ntmps29
    go_upto_region 3 with fail
    have XA := X8.new w (.int .i64 3) (.int .i64 pv) (.int .i64 pvk) (.int .i64 pva) (.int .i64 pvb) (.int .i64 y) (.slice ta lt tc) (.slice ea le ec) 66
    have hHeld : Below w.heap.size w ((w.alloc (.cells #[(.int .i64 3), (.int .i64 pv), (.int .i64 pvk), (.int .i64 pva), (.int .i64 pvb), (.int .i64 y), (.slice ta lt tc), (.slice ea le ec)] 66)).alloc (.cells #[.int .i64 0, .int .i64 0, .int .i64 0, .int .i64 0, .int .i64 0, .int .i64 0, .slice none 0 0, .slice none 0 0] 66)) := ((Below.refl _ _).alloc (Nat.le_refl _) _).alloc (by simp) _
    have sA : w.heap.size + 1 < ((w.alloc (.cells #[(.int .i64 3), (.int .i64 pv), (.int .i64 pvk), (.int .i64 pva), (.int .i64 pvb), (.int .i64 y), (.slice ta lt tc), (.slice ea le ec)] 66)).alloc (.cells #[.int .i64 0, .int .i64 0, .int .i64 0, .int .i64 0, .int .i64 0, .int .i64 0, .slice none 0 0, .slice none 0 0] 66)).heap.size := by simp
    generalize (w.alloc (.cells #[(.int .i64 3), (.int .i64 pv), (.int .i64 pvk), (.int .i64 pva), (.int .i64 pvb), (.int .i64 y), (.slice ta lt tc), (.slice ea le ec)] 66)).alloc (.cells #[.int .i64 0, .int .i64 0, .int .i64 0, .int .i64 0, .int .i64 0, .int .i64 0, .slice none 0 0, .slice none 0 0] 66) = wA at XA hHeld sA ⊢
    replace XA := XA.below ((Below.refl _ _).drew)
    replace hHeld := hHeld.drew
    replace sA : w.heap.size + 1 < wA.drew.heap.size := sA
    refine wp_region_held (S := (fun wz => Below w.heap.size w wz)) (by kernel_rfl) ?_
    change wpAnyH _ _ _ _ _ _ _ _ (World.drew _)
    generalize wA.drew = wD at XA hHeld sA ⊢
    have XH : Hid (X8 wD w.heap.size (.int .i64 3) (.int .i64 pv) (.int .i64 pvk) (.int .i64 pva) (.int .i64 pvb) (.int .i64 y) (.slice ta lt tc) (.slice ea le ec)) := XA
    have HS : Hid (w.heap.size + 1 < wD.heap.size) := sA
    clear XA sA
    refine' wpAnyH_take (i := 0) (v := _) rfl (by kernel_rfl) (by kernel_rfl) (by kernel_rfl) (fun _ _ _ h => h) (Or.inl ⟨by rfl, ?hy201⟩) hHeld ?hn201
    case hy201 => (intro wz hSw; go_simp; first | done | with_reducible rfl)
    try simp only [nrm, Act.put]
    refine' wpAnyH_take (i := 2) (v := _) rfl (by kernel_rfl) (by kernel_rfl) (by kernel_rfl) (fun _ _ _ h => h) (Or.inl ⟨by rfl, ?hy202⟩) hHeld ?hn202
    case hy202 => (intro wz hSw; go_simp; first | done | with_reducible rfl)
    try simp only [nrm, Act.put]
    refine' wpAnyH_take (i := 4) (v := _) rfl (by kernel_rfl) (by kernel_rfl) (by kernel_rfl) (fun _ _ _ h => h) (Or.inl ⟨by rfl, ?hy203⟩) hHeld ?hn203
    case hy203 => (intro wz hSw; go_simp; first | done | with_reducible rfl)
    try simp only [nrm, Act.put]
    refine' wpAnyH_take (i := 6) (v := _) rfl (by kernel_rfl) (by kernel_rfl) (by kernel_rfl) (fun _ _ _ h => h) (Or.inl ⟨by rfl, ?hy204⟩) hHeld ?hn204
    case hy204 => (intro wz hSw; go_simp; first | done | with_reducible rfl)
    try simp only [nrm, Act.put]
    refine wpAnyH_ready (rs := [1, 5]) (by kernel_rfl) (by simp) ?_
    refine AllReadyH.cons rfl (fun K hK => ?_) (AllReadyH.cons rfl (fun K hK => ?_) AllReadyH.nil)
    · obtain ⟨⟨⟨x0, x1, x2, x3, x4, x5, x6, x7⟩, y0, y1, y2, y3, y4, y5, y6, y7⟩, -⟩ := XH.out
      go_simp
      clear x0 x1 x2 x3 x4 x5 x6 x7 y0 y1 y2 y3 y4 y5 y6 y7
      refine hK.out _ _ (hHeld) (fun hHeld => ?_)
      clear hK K
      refine wpAnyH_ready (rs := [3, 5]) (by kernel_rfl) (by simp) ?_
      refine AllReadyH.cons rfl (fun K hK => ?_) (AllReadyH.cons rfl (fun K hK => ?_) AllReadyH.nil)
      · go_simp
        refine Calls.mono (C1.out _ hHeld) ?_
        rintro e' wc1 ⟨v', b1, rfl, hb1, o1, r1, n1⟩
        rw [HU1.out] at o1
        obtain ⟨ta', tc', rfl⟩ := o1.slice
        have XN : Hid (X8 wc1 w.heap.size (.int .i64 3) (.int .i64 pv) (.int .i64 pvk) (.int .i64 pva) (.int .i64 pvb) (.int .i64 y) (.slice ta lt tc) (.slice ea le ec)) := XH.out.below hb1
        clear XH
        have XH : Hid (X8 wc1 w.heap.size (.int .i64 3) (.int .i64 pv) (.int .i64 pvk) (.int .i64 pva) (.int .i64 pvb) (.int .i64 y) (.slice ta lt tc) (.slice ea le ec)) := XN.out
        clear XN
        have HR1 : Hid (∀ b ∈ b1, w.heap.size + 1 < b ∧ b < wc1.heap.size) := (show ∀ b ∈ b1, _ from fun b hb => by have := r1 b hb; have := HS.out; omega)
        have HO1 : Hid (Own wc1 k (.slice ta' (ln k U1) tc') U1 b1) := o1
        have HN1 : Hid _ := n1
        have HS1 : Hid (w.heap.size + 1 < wc1.heap.size) := (show w.heap.size + 1 < wc1.heap.size by have := hb1.size; have := HS.out; omega)
        have hh1 := Below.then hHeld hb1 hHeld.size
        clear o1 r1 n1 hb1 HS
        refine hK.out _ _ (hh1) (fun hHeld => ?_)
        clear hK K
        refine wpAnyH_ready (rs := [5]) (by kernel_rfl) (by simp) ?_
        refine AllReadyH.cons rfl (fun K hK => ?_) AllReadyH.nil
        obtain ⟨⟨⟨x0, x1, x2, x3, x4, x5, x6, x7⟩, y0, y1, y2, y3, y4, y5, y6, y7⟩, -⟩ := XH.out
        go_simp
        clear x0 x1 x2 x3 x4 x5 x6 x7 y0 y1 y2 y3 y4 y5 y6 y7
        refine hK.out _ _ (hHeld) (fun hHeld => ?_)
        clear hK K
        refine' wpAnyH_take (i := 8) (v := _) rfl (by kernel_rfl) (by kernel_rfl) (by kernel_rfl) (fun _ _ _ h => h) (Or.inl ⟨by rfl, ?hy205⟩) hHeld ?hn205
        case hy205 => (intro wz hSw; go_simp; first | done | with_reducible rfl)
        try simp only [nrm, Act.put]
        refine wpAnyH_ready (rs := [7]) (by kernel_rfl) (by simp) ?_
        refine AllReadyH.cons rfl (fun K hK => ?_) AllReadyH.nil
        go_simp
        refine Calls.mono (C2.out _ hHeld) ?_
        rintro e' wc2 ⟨v', b2, rfl, hb2, o2, r2, n2⟩
        rw [HU2.out] at o2
        obtain ⟨ea', ec', rfl⟩ := o2.slice
        have XN : Hid (X8 wc2 w.heap.size (.int .i64 3) (.int .i64 pv) (.int .i64 pvk) (.int .i64 pva) (.int .i64 pvb) (.int .i64 y) (.slice ta lt tc) (.slice ea le ec)) := XH.out.below hb2
        clear XH
        have XH : Hid (X8 wc2 w.heap.size (.int .i64 3) (.int .i64 pv) (.int .i64 pvk) (.int .i64 pva) (.int .i64 pvb) (.int .i64 y) (.slice ta lt tc) (.slice ea le ec)) := XN.out
        clear XN
        have HR2 : Hid (∀ b ∈ b2, wc1.heap.size ≤ b ∧ b < wc2.heap.size) := r2
        have HO2 : Hid (Own wc2 k (.slice ea' (ln k U2) ec') U2 b2) := o2
        have HO1' : Hid (Own wc2 k (.slice ta' (ln k U1) tc') U1 b1) := Own.below HO1.out hb2 (fun b hb => (HR1.out b hb).2)
        have HN2 : Hid _ := n2
        have HS2 : Hid (wc1.heap.size ≤ wc2.heap.size) := hb2.size
        have hh2 := Below.then hHeld hb2 hHeld.size
        clear o2 r2 n2 hb2 HO1
        refine hK.out _ _ (hh2) (fun hHeld => ?_)
        clear hK K
        refine wpAnyH_ready (rs := [9]) (by kernel_rfl) (by simp) ?_
        refine AllReadyH.cons rfl (fun K hK => ?_) AllReadyH.nil
        obtain ⟨⟨⟨x0, x1, x2, x3, x4, x5, x6, x7⟩, y0, y1, y2, y3, y4, y5, y6, y7⟩, -⟩ := XH.out
        go_simp
        clear x0 x1 x2 x3 x4 x5 x6 x7 y0 y1 y2 y3 y4 y5 y6 y7
        have XN : X8 (wc2.setCell ⟨w.heap.size, 6, none⟩ (.slice ta' (ln k U1) tc')) w.heap.size (.int .i64 3) (.int .i64 pv) (.int .i64 pvk) (.int .i64 pva) (.int .i64 pvb) (.int .i64 y) (.slice ta' (ln k U1) tc') (.slice ea le ec) := X8.of XH.out (XH.out.1.set6 _) (far1 _ _ _ _)
        have p1 : Own (wc2.setCell ⟨w.heap.size, 6, none⟩ (.slice ta' (ln k U1) tc')) k (.slice ta' (ln k U1) tc') U1 b1 := Own.set HO1'.out (a := ⟨w.heap.size, 6, none⟩) (fun b hb => by have := HR1.out b hb; show b ≠ w.heap.size; omega) _
        have p2 : Own (wc2.setCell ⟨w.heap.size, 6, none⟩ (.slice ta' (ln k U1) tc')) k (.slice ea' (ln k U2) ec') U2 b2 := Own.set HO2.out (a := ⟨w.heap.size, 6, none⟩) (fun b hb => by have := HR2.out b hb; have := HS1.out; show b ≠ w.heap.size; omega) _
        have hh3 : Below w.heap.size w (wc2.setCell ⟨w.heap.size, 6, none⟩ (.slice ta' (ln k U1) tc')) := Below.setCell (p := ⟨w.heap.size, 6, none⟩) hHeld (Nat.le_refl _) _
        have sz3 : (wc2.setCell ⟨w.heap.size, 6, none⟩ (.slice ta' (ln k U1) tc')).heap.size = wc2.heap.size := by simp [World.setCell]
        clear XH HO1' HO2
        generalize wc2.setCell ⟨w.heap.size, 6, none⟩ (.slice ta' (ln k U1) tc') = ws6 at XN p1 p2 hh3 sz3 ⊢
        have XH : Hid (X8 ws6 w.heap.size (.int .i64 3) (.int .i64 pv) (.int .i64 pvk) (.int .i64 pva) (.int .i64 pvb) (.int .i64 y) (.slice ta' (ln k U1) tc') (.slice ea le ec)) := XN
        have HP1 : Hid (Own ws6 k (.slice ta' (ln k U1) tc') U1 b1) := p1
        have HP2 : Hid (Own ws6 k (.slice ea' (ln k U2) ec') U2 b2) := p2
        have HZ6 : Hid (ws6.heap.size = wc2.heap.size) := sz3
        clear XN p1 p2 sz3
        refine hK.out _ _ (hh3) (fun hHeld => ?_)
        clear hK K
        refine' wpAnyH_take (i := 10) (v := _) rfl (by kernel_rfl) (by kernel_rfl) (by kernel_rfl) (fun _ _ _ h => h) (Or.inl ⟨by rfl, ?hy206⟩) hHeld ?hn206
        case hy206 => (intro wz hSw; go_simp; first | done | with_reducible rfl)
        try simp only [nrm, Act.put]
        refine wpAnyH_ready (rs := [11]) (by kernel_rfl) (by simp) ?_
        refine AllReadyH.cons rfl (fun K hK => ?_) AllReadyH.nil
        obtain ⟨⟨⟨x0, x1, x2, x3, x4, x5, x6, x7⟩, y0, y1, y2, y3, y4, y5, y6, y7⟩, -⟩ := XH.out
        go_simp
        clear x0 x1 x2 x3 x4 x5 x6 x7 y0 y1 y2 y3 y4 y5 y6 y7
        have XN : X8 (ws6.setCell ⟨w.heap.size, 7, none⟩ (.slice ea' (ln k U2) ec')) w.heap.size (.int .i64 3) (.int .i64 pv) (.int .i64 pvk) (.int .i64 pva) (.int .i64 pvb) (.int .i64 y) (.slice ta' (ln k U1) tc') (.slice ea' (ln k U2) ec') := X8.of XH.out (XH.out.1.set7 _) (far1 _ _ _ _)
        have p1 : Own (ws6.setCell ⟨w.heap.size, 7, none⟩ (.slice ea' (ln k U2) ec')) k (.slice ta' (ln k U1) tc') U1 b1 := Own.set HP1.out (a := ⟨w.heap.size, 7, none⟩) (fun b hb => by have := HR1.out b hb; show b ≠ w.heap.size; omega) _
        have p2 : Own (ws6.setCell ⟨w.heap.size, 7, none⟩ (.slice ea' (ln k U2) ec')) k (.slice ea' (ln k U2) ec') U2 b2 := Own.set HP2.out (a := ⟨w.heap.size, 7, none⟩) (fun b hb => by have := HR2.out b hb; have := HS1.out; show b ≠ w.heap.size; omega) _
        have hh3 : Below w.heap.size w (ws6.setCell ⟨w.heap.size, 7, none⟩ (.slice ea' (ln k U2) ec')) := Below.setCell (p := ⟨w.heap.size, 7, none⟩) hHeld (Nat.le_refl _) _
        have sz3 : (ws6.setCell ⟨w.heap.size, 7, none⟩ (.slice ea' (ln k U2) ec')).heap.size = ws6.heap.size := by simp [World.setCell]
        clear XH HP1 HP2
        generalize ws6.setCell ⟨w.heap.size, 7, none⟩ (.slice ea' (ln k U2) ec') = ws7 at XN p1 p2 hh3 sz3 ⊢
        have XH : Hid (X8 ws7 w.heap.size (.int .i64 3) (.int .i64 pv) (.int .i64 pvk) (.int .i64 pva) (.int .i64 pvb) (.int .i64 y) (.slice ta' (ln k U1) tc') (.slice ea' (ln k U2) ec')) := XN
        have HQ1 : Hid (Own ws7 k (.slice ta' (ln k U1) tc') U1 b1) := p1
        have HQ2 : Hid (Own ws7 k (.slice ea' (ln k U2) ec') U2 b2) := p2
        have HZ7 : Hid (ws7.heap.size = ws6.heap.size) := sz3
        clear XN p1 p2 sz3
        refine hK.out _ _ (hh3) (fun hHeld => ?_)
        clear hK K
        refine wpAnyH_done (by kernel_rfl) ?_ _
        obtain ⟨X1, z0, z1, z2, z3, z4, z5, z6, z7, Y1⟩ := XH.out
        have HY : Hid (C8 ws7 (w.heap.size + 1) z0 z1 z2 z3 z4 z5 z6 z7) := Y1
        obtain ⟨⟨x0, x1, x2, x3, x4, x5, x6, x7⟩, -⟩ := X1
        obtain ⟨⟨y0, y1, y2, y3, y4, y5, y6, y7⟩, v0, v1, v2, v3, v4, v5, v6, v7⟩ := Y1
        have HB : Hid (Below w.heap.size w ws7) := hHeld
        clear hHeld
        go_wp2
        have AF := st8_c8 HY.out (.int .i64 3) (.int .i64 pv) (.int .i64 pvk) (.int .i64 pva) (.int .i64 pvb) (.int .i64 y) (.slice ta' (ln k U1) tc') (.slice ea' (ln k U2) ec')
        have BF := st8_below HB.out (show w.heap.size ≤ w.heap.size + 1 by omega) (.int .i64 3) (.int .i64 pv) (.int .i64 pvk) (.int .i64 pva) (.int .i64 pvb) (.int .i64 y) (.slice ta' (ln k U1) tc') (.slice ea' (ln k U2) ec')
        have hh : ∀ b, b ≠ w.heap.size + 1 → _ := fun b hb => st8_heap ws7 (w.heap.size + 1) b hb (.int .i64 3) (.int .i64 pv) (.int .i64 pvk) (.int .i64 pva) (.int .i64 pvb) (.int .i64 y) (.slice ta' (ln k U1) tc') (.slice ea' (ln k U2) ec')
        have sF := st8_size ws7 (w.heap.size + 1) (.int .i64 3) (.int .i64 pv) (.int .i64 pvk) (.int .i64 pva) (.int .i64 pvb) (.int .i64 y) (.slice ta' (ln k U1) tc') (.slice ea' (ln k U2) ec')
        generalize ((((((((ws7).setCell ⟨w.heap.size + 1, 0, none⟩ (.int .i64 3)).setCell ⟨w.heap.size + 1, 1, none⟩ (.int .i64 pv)).setCell ⟨w.heap.size + 1, 2, none⟩ (.int .i64 pvk)).setCell ⟨w.heap.size + 1, 3, none⟩ (.int .i64 pva)).setCell ⟨w.heap.size + 1, 4, none⟩ (.int .i64 pvb)).setCell ⟨w.heap.size + 1, 5, none⟩ (.int .i64 y)).setCell ⟨w.heap.size + 1, 6, none⟩ (.slice ta' (ln k U1) tc')).setCell ⟨w.heap.size + 1, 7, none⟩ (.slice ea' (ln k U2) ec') = wf at AF BF hh sF ⊢
        obtain ⟨⟨c0, c1, c2, c3, c4, c5, c6, c7⟩, -⟩ := AF
        refine bodyPost_ret (v := payV ⟨3, pv, pvk, pva, pvb, y⟩ (.slice ta' (ln k U1) tc') (.slice ea' (ln k U2) ec')) (by simp [payV, results, Tryz.results29, go_sem, c0, c1, c2, c3, c4, c5, c6, c7]) rfl ?_
        have r1 : ∀ b ∈ b1, w.heap.size + 1 < b ∧ b < wc1.heap.size := HR1.out
        have r2 : ∀ b ∈ b2, wc1.heap.size ≤ b ∧ b < wc2.heap.size := HR2.out
        have q1 := HS1.out
        have q2 := HS2.out
        have q3 := HZ6.out
        have q4 := HZ7.out
        refine ⟨_, _, b1, b2, by rw [HF.out], BF, ?_, ?_, ?_, ?_⟩
        · rw [HU1.out]; exact Own.frame (fun b hb => hh b (by have := r1 b hb; omega)) HQ1.out
        · rw [HU2.out]; exact Own.frame (fun b hb => hh b (by have := r2 b hb; omega)) HQ2.out
        · intro b hb
          rcases List.mem_append.1 hb with hb | hb
          · have := r1 b hb; omega
          · have := r2 b hb; omega
        · refine List.nodup_append.2 ⟨HN1.out, HN2.out, ?_⟩
          intro a ha b hb
          have := r1 a ha
          have := r2 b hb
          omega
      · obtain ⟨⟨⟨x0, x1, x2, x3, x4, x5, x6, x7⟩, y0, y1, y2, y3, y4, y5, y6, y7⟩, -⟩ := XH.out
        go_simp
        clear x0 x1 x2 x3 x4 x5 x6 x7 y0 y1 y2 y3 y4 y5 y6 y7
        refine hK.out _ _ (hHeld) (fun hHeld => ?_)
        clear hK K
        refine wpAnyH_ready (rs := [3]) (by kernel_rfl) (by simp) ?_
        refine AllReadyH.cons rfl (fun K hK => ?_) AllReadyH.nil
        go_simp
        refine Calls.mono (C1.out _ hHeld) ?_
        rintro e' wc1 ⟨v', b1, rfl, hb1, o1, r1, n1⟩
        rw [HU1.out] at o1
        obtain ⟨ta', tc', rfl⟩ := o1.slice
        have XN : Hid (X8 wc1 w.heap.size (.int .i64 3) (.int .i64 pv) (.int .i64 pvk) (.int .i64 pva) (.int .i64 pvb) (.int .i64 y) (.slice ta lt tc) (.slice ea le ec)) := XH.out.below hb1
        clear XH
        have XH : Hid (X8 wc1 w.heap.size (.int .i64 3) (.int .i64 pv) (.int .i64 pvk) (.int .i64 pva) (.int .i64 pvb) (.int .i64 y) (.slice ta lt tc) (.slice ea le ec)) := XN.out
        clear XN
        have HR1 : Hid (∀ b ∈ b1, w.heap.size + 1 < b ∧ b < wc1.heap.size) := (show ∀ b ∈ b1, _ from fun b hb => by have := r1 b hb; have := HS.out; omega)
        have HO1 : Hid (Own wc1 k (.slice ta' (ln k U1) tc') U1 b1) := o1
        have HN1 : Hid _ := n1
        have HS1 : Hid (w.heap.size + 1 < wc1.heap.size) := (show w.heap.size + 1 < wc1.heap.size by have := hb1.size; have := HS.out; omega)
        have hh1 := Below.then hHeld hb1 hHeld.size
        clear o1 r1 n1 hb1 HS
        refine hK.out _ _ (hh1) (fun hHeld => ?_)
        clear hK K
        refine' wpAnyH_take (i := 8) (v := _) rfl (by kernel_rfl) (by kernel_rfl) (by kernel_rfl) (fun _ _ _ h => h) (Or.inl ⟨by rfl, ?hy207⟩) hHeld ?hn207
        case hy207 => (intro wz hSw; go_simp; first | done | with_reducible rfl)
        try simp only [nrm, Act.put]
        refine wpAnyH_ready (rs := [7]) (by kernel_rfl) (by simp) ?_
        refine AllReadyH.cons rfl (fun K hK => ?_) AllReadyH.nil
        go_simp
        refine Calls.mono (C2.out _ hHeld) ?_
        rintro e' wc2 ⟨v', b2, rfl, hb2, o2, r2, n2⟩
        rw [HU2.out] at o2
        obtain ⟨ea', ec', rfl⟩ := o2.slice
        have XN : Hid (X8 wc2 w.heap.size (.int .i64 3) (.int .i64 pv) (.int .i64 pvk) (.int .i64 pva) (.int .i64 pvb) (.int .i64 y) (.slice ta lt tc) (.slice ea le ec)) := XH.out.below hb2
        clear XH
        have XH : Hid (X8 wc2 w.heap.size (.int .i64 3) (.int .i64 pv) (.int .i64 pvk) (.int .i64 pva) (.int .i64 pvb) (.int .i64 y) (.slice ta lt tc) (.slice ea le ec)) := XN.out
        clear XN
        have HR2 : Hid (∀ b ∈ b2, wc1.heap.size ≤ b ∧ b < wc2.heap.size) := r2
        have HO2 : Hid (Own wc2 k (.slice ea' (ln k U2) ec') U2 b2) := o2
        have HO1' : Hid (Own wc2 k (.slice ta' (ln k U1) tc') U1 b1) := Own.below HO1.out hb2 (fun b hb => (HR1.out b hb).2)
        have HN2 : Hid _ := n2
        have HS2 : Hid (wc1.heap.size ≤ wc2.heap.size) := hb2.size
        have hh2 := Below.then hHeld hb2 hHeld.size
        clear o2 r2 n2 hb2 HO1
        refine hK.out _ _ (hh2) (fun hHeld => ?_)
        clear hK K
        refine wpAnyH_ready (rs := [9]) (by kernel_rfl) (by simp) ?_
        refine AllReadyH.cons rfl (fun K hK => ?_) AllReadyH.nil
        obtain ⟨⟨⟨x0, x1, x2, x3, x4, x5, x6, x7⟩, y0, y1, y2, y3, y4, y5, y6, y7⟩, -⟩ := XH.out
        go_simp
        clear x0 x1 x2 x3 x4 x5 x6 x7 y0 y1 y2 y3 y4 y5 y6 y7
        have XN : X8 (wc2.setCell ⟨w.heap.size, 6, none⟩ (.slice ta' (ln k U1) tc')) w.heap.size (.int .i64 3) (.int .i64 pv) (.int .i64 pvk) (.int .i64 pva) (.int .i64 pvb) (.int .i64 y) (.slice ta' (ln k U1) tc') (.slice ea le ec) := X8.of XH.out (XH.out.1.set6 _) (far1 _ _ _ _)
        have p1 : Own (wc2.setCell ⟨w.heap.size, 6, none⟩ (.slice ta' (ln k U1) tc')) k (.slice ta' (ln k U1) tc') U1 b1 := Own.set HO1'.out (a := ⟨w.heap.size, 6, none⟩) (fun b hb => by have := HR1.out b hb; show b ≠ w.heap.size; omega) _
        have p2 : Own (wc2.setCell ⟨w.heap.size, 6, none⟩ (.slice ta' (ln k U1) tc')) k (.slice ea' (ln k U2) ec') U2 b2 := Own.set HO2.out (a := ⟨w.heap.size, 6, none⟩) (fun b hb => by have := HR2.out b hb; have := HS1.out; show b ≠ w.heap.size; omega) _
        have hh3 : Below w.heap.size w (wc2.setCell ⟨w.heap.size, 6, none⟩ (.slice ta' (ln k U1) tc')) := Below.setCell (p := ⟨w.heap.size, 6, none⟩) hHeld (Nat.le_refl _) _
        have sz3 : (wc2.setCell ⟨w.heap.size, 6, none⟩ (.slice ta' (ln k U1) tc')).heap.size = wc2.heap.size := by simp [World.setCell]
        clear XH HO1' HO2
        generalize wc2.setCell ⟨w.heap.size, 6, none⟩ (.slice ta' (ln k U1) tc') = ws6 at XN p1 p2 hh3 sz3 ⊢
        have XH : Hid (X8 ws6 w.heap.size (.int .i64 3) (.int .i64 pv) (.int .i64 pvk) (.int .i64 pva) (.int .i64 pvb) (.int .i64 y) (.slice ta' (ln k U1) tc') (.slice ea le ec)) := XN
        have HP1 : Hid (Own ws6 k (.slice ta' (ln k U1) tc') U1 b1) := p1
        have HP2 : Hid (Own ws6 k (.slice ea' (ln k U2) ec') U2 b2) := p2
        have HZ6 : Hid (ws6.heap.size = wc2.heap.size) := sz3
        clear XN p1 p2 sz3
        refine hK.out _ _ (hh3) (fun hHeld => ?_)
        clear hK K
        refine' wpAnyH_take (i := 10) (v := _) rfl (by kernel_rfl) (by kernel_rfl) (by kernel_rfl) (fun _ _ _ h => h) (Or.inl ⟨by rfl, ?hy208⟩) hHeld ?hn208
        case hy208 => (intro wz hSw; go_simp; first | done | with_reducible rfl)
        try simp only [nrm, Act.put]
        refine wpAnyH_ready (rs := [11]) (by kernel_rfl) (by simp) ?_
        refine AllReadyH.cons rfl (fun K hK => ?_) AllReadyH.nil
        obtain ⟨⟨⟨x0, x1, x2, x3, x4, x5, x6, x7⟩, y0, y1, y2, y3, y4, y5, y6, y7⟩, -⟩ := XH.out
        go_simp
        clear x0 x1 x2 x3 x4 x5 x6 x7 y0 y1 y2 y3 y4 y5 y6 y7
        have XN : X8 (ws6.setCell ⟨w.heap.size, 7, none⟩ (.slice ea' (ln k U2) ec')) w.heap.size (.int .i64 3) (.int .i64 pv) (.int .i64 pvk) (.int .i64 pva) (.int .i64 pvb) (.int .i64 y) (.slice ta' (ln k U1) tc') (.slice ea' (ln k U2) ec') := X8.of XH.out (XH.out.1.set7 _) (far1 _ _ _ _)
        have p1 : Own (ws6.setCell ⟨w.heap.size, 7, none⟩ (.slice ea' (ln k U2) ec')) k (.slice ta' (ln k U1) tc') U1 b1 := Own.set HP1.out (a := ⟨w.heap.size, 7, none⟩) (fun b hb => by have := HR1.out b hb; show b ≠ w.heap.size; omega) _
        have p2 : Own (ws6.setCell ⟨w.heap.size, 7, none⟩ (.slice ea' (ln k U2) ec')) k (.slice ea' (ln k U2) ec') U2 b2 := Own.set HP2.out (a := ⟨w.heap.size, 7, none⟩) (fun b hb => by have := HR2.out b hb; have := HS1.out; show b ≠ w.heap.size; omega) _
        have hh3 : Below w.heap.size w (ws6.setCell ⟨w.heap.size, 7, none⟩ (.slice ea' (ln k U2) ec')) := Below.setCell (p := ⟨w.heap.size, 7, none⟩) hHeld (Nat.le_refl _) _
        have sz3 : (ws6.setCell ⟨w.heap.size, 7, none⟩ (.slice ea' (ln k U2) ec')).heap.size = ws6.heap.size := by simp [World.setCell]
        clear XH HP1 HP2
        generalize ws6.setCell ⟨w.heap.size, 7, none⟩ (.slice ea' (ln k U2) ec') = ws7 at XN p1 p2 hh3 sz3 ⊢
        have XH : Hid (X8 ws7 w.heap.size (.int .i64 3) (.int .i64 pv) (.int .i64 pvk) (.int .i64 pva) (.int .i64 pvb) (.int .i64 y) (.slice ta' (ln k U1) tc') (.slice ea' (ln k U2) ec')) := XN
        have HQ1 : Hid (Own ws7 k (.slice ta' (ln k U1) tc') U1 b1) := p1
        have HQ2 : Hid (Own ws7 k (.slice ea' (ln k U2) ec') U2 b2) := p2
        have HZ7 : Hid (ws7.heap.size = ws6.heap.size) := sz3
        clear XN p1 p2 sz3
        refine hK.out _ _ (hh3) (fun hHeld => ?_)
        clear hK K
        refine wpAnyH_done (by kernel_rfl) ?_ _
        obtain ⟨X1, z0, z1, z2, z3, z4, z5, z6, z7, Y1⟩ := XH.out
        have HY : Hid (C8 ws7 (w.heap.size + 1) z0 z1 z2 z3 z4 z5 z6 z7) := Y1
        obtain ⟨⟨x0, x1, x2, x3, x4, x5, x6, x7⟩, -⟩ := X1
        obtain ⟨⟨y0, y1, y2, y3, y4, y5, y6, y7⟩, v0, v1, v2, v3, v4, v5, v6, v7⟩ := Y1
        have HB : Hid (Below w.heap.size w ws7) := hHeld
        clear hHeld
        go_wp2
        have AF := st8_c8 HY.out (.int .i64 3) (.int .i64 pv) (.int .i64 pvk) (.int .i64 pva) (.int .i64 pvb) (.int .i64 y) (.slice ta' (ln k U1) tc') (.slice ea' (ln k U2) ec')
        have BF := st8_below HB.out (show w.heap.size ≤ w.heap.size + 1 by omega) (.int .i64 3) (.int .i64 pv) (.int .i64 pvk) (.int .i64 pva) (.int .i64 pvb) (.int .i64 y) (.slice ta' (ln k U1) tc') (.slice ea' (ln k U2) ec')
        have hh : ∀ b, b ≠ w.heap.size + 1 → _ := fun b hb => st8_heap ws7 (w.heap.size + 1) b hb (.int .i64 3) (.int .i64 pv) (.int .i64 pvk) (.int .i64 pva) (.int .i64 pvb) (.int .i64 y) (.slice ta' (ln k U1) tc') (.slice ea' (ln k U2) ec')
        have sF := st8_size ws7 (w.heap.size + 1) (.int .i64 3) (.int .i64 pv) (.int .i64 pvk) (.int .i64 pva) (.int .i64 pvb) (.int .i64 y) (.slice ta' (ln k U1) tc') (.slice ea' (ln k U2) ec')
        generalize ((((((((ws7).setCell ⟨w.heap.size + 1, 0, none⟩ (.int .i64 3)).setCell ⟨w.heap.size + 1, 1, none⟩ (.int .i64 pv)).setCell ⟨w.heap.size + 1, 2, none⟩ (.int .i64 pvk)).setCell ⟨w.heap.size + 1, 3, none⟩ (.int .i64 pva)).setCell ⟨w.heap.size + 1, 4, none⟩ (.int .i64 pvb)).setCell ⟨w.heap.size + 1, 5, none⟩ (.int .i64 y)).setCell ⟨w.heap.size + 1, 6, none⟩ (.slice ta' (ln k U1) tc')).setCell ⟨w.heap.size + 1, 7, none⟩ (.slice ea' (ln k U2) ec') = wf at AF BF hh sF ⊢
        obtain ⟨⟨c0, c1, c2, c3, c4, c5, c6, c7⟩, -⟩ := AF
        refine bodyPost_ret (v := payV ⟨3, pv, pvk, pva, pvb, y⟩ (.slice ta' (ln k U1) tc') (.slice ea' (ln k U2) ec')) (by simp [payV, results, Tryz.results29, go_sem, c0, c1, c2, c3, c4, c5, c6, c7]) rfl ?_
        have r1 : ∀ b ∈ b1, w.heap.size + 1 < b ∧ b < wc1.heap.size := HR1.out
        have r2 : ∀ b ∈ b2, wc1.heap.size ≤ b ∧ b < wc2.heap.size := HR2.out
        have q1 := HS1.out
        have q2 := HS2.out
        have q3 := HZ6.out
        have q4 := HZ7.out
        refine ⟨_, _, b1, b2, by rw [HF.out], BF, ?_, ?_, ?_, ?_⟩
        · rw [HU1.out]; exact Own.frame (fun b hb => hh b (by have := r1 b hb; omega)) HQ1.out
        · rw [HU2.out]; exact Own.frame (fun b hb => hh b (by have := r2 b hb; omega)) HQ2.out
        · intro b hb
          rcases List.mem_append.1 hb with hb | hb
          · have := r1 b hb; omega
          · have := r2 b hb; omega
        · refine List.nodup_append.2 ⟨HN1.out, HN2.out, ?_⟩
          intro a ha b hb
          have := r1 a ha
          have := r2 b hb
          omega
    · obtain ⟨⟨⟨x0, x1, x2, x3, x4, x5, x6, x7⟩, y0, y1, y2, y3, y4, y5, y6, y7⟩, -⟩ := XH.out
      go_simp
      clear x0 x1 x2 x3 x4 x5 x6 x7 y0 y1 y2 y3 y4 y5 y6 y7
      refine hK.out _ _ (hHeld) (fun hHeld => ?_)
      clear hK K
      refine wpAnyH_ready (rs := [1]) (by kernel_rfl) (by simp) ?_
      refine AllReadyH.cons rfl (fun K hK => ?_) AllReadyH.nil
      obtain ⟨⟨⟨x0, x1, x2, x3, x4, x5, x6, x7⟩, y0, y1, y2, y3, y4, y5, y6, y7⟩, -⟩ := XH.out
      go_simp
      clear x0 x1 x2 x3 x4 x5 x6 x7 y0 y1 y2 y3 y4 y5 y6 y7
      refine hK.out _ _ (hHeld) (fun hHeld => ?_)
      clear hK K
      refine wpAnyH_ready (rs := [3]) (by kernel_rfl) (by simp) ?_
      refine AllReadyH.cons rfl (fun K hK => ?_) AllReadyH.nil
      go_simp
      refine Calls.mono (C1.out _ hHeld) ?_
      rintro e' wc1 ⟨v', b1, rfl, hb1, o1, r1, n1⟩
      rw [HU1.out] at o1
      obtain ⟨ta', tc', rfl⟩ := o1.slice
      have XN : Hid (X8 wc1 w.heap.size (.int .i64 3) (.int .i64 pv) (.int .i64 pvk) (.int .i64 pva) (.int .i64 pvb) (.int .i64 y) (.slice ta lt tc) (.slice ea le ec)) := XH.out.below hb1
      clear XH
      have XH : Hid (X8 wc1 w.heap.size (.int .i64 3) (.int .i64 pv) (.int .i64 pvk) (.int .i64 pva) (.int .i64 pvb) (.int .i64 y) (.slice ta lt tc) (.slice ea le ec)) := XN.out
      clear XN
      have HR1 : Hid (∀ b ∈ b1, w.heap.size + 1 < b ∧ b < wc1.heap.size) := (show ∀ b ∈ b1, _ from fun b hb => by have := r1 b hb; have := HS.out; omega)
      have HO1 : Hid (Own wc1 k (.slice ta' (ln k U1) tc') U1 b1) := o1
      have HN1 : Hid _ := n1
      have HS1 : Hid (w.heap.size + 1 < wc1.heap.size) := (show w.heap.size + 1 < wc1.heap.size by have := hb1.size; have := HS.out; omega)
      have hh1 := Below.then hHeld hb1 hHeld.size
      clear o1 r1 n1 hb1 HS
      refine hK.out _ _ (hh1) (fun hHeld => ?_)
      clear hK K
      refine' wpAnyH_take (i := 8) (v := _) rfl (by kernel_rfl) (by kernel_rfl) (by kernel_rfl) (fun _ _ _ h => h) (Or.inl ⟨by rfl, ?hy209⟩) hHeld ?hn209
      case hy209 => (intro wz hSw; go_simp; first | done | with_reducible rfl)
      try simp only [nrm, Act.put]
      refine wpAnyH_ready (rs := [7]) (by kernel_rfl) (by simp) ?_
      refine AllReadyH.cons rfl (fun K hK => ?_) AllReadyH.nil
      go_simp
      refine Calls.mono (C2.out _ hHeld) ?_
      rintro e' wc2 ⟨v', b2, rfl, hb2, o2, r2, n2⟩
      rw [HU2.out] at o2
      obtain ⟨ea', ec', rfl⟩ := o2.slice
      have XN : Hid (X8 wc2 w.heap.size (.int .i64 3) (.int .i64 pv) (.int .i64 pvk) (.int .i64 pva) (.int .i64 pvb) (.int .i64 y) (.slice ta lt tc) (.slice ea le ec)) := XH.out.below hb2
      clear XH
      have XH : Hid (X8 wc2 w.heap.size (.int .i64 3) (.int .i64 pv) (.int .i64 pvk) (.int .i64 pva) (.int .i64 pvb) (.int .i64 y) (.slice ta lt tc) (.slice ea le ec)) := XN.out
      clear XN
      have HR2 : Hid (∀ b ∈ b2, wc1.heap.size ≤ b ∧ b < wc2.heap.size) := r2
      have HO2 : Hid (Own wc2 k (.slice ea' (ln k U2) ec') U2 b2) := o2
      have HO1' : Hid (Own wc2 k (.slice ta' (ln k U1) tc') U1 b1) := Own.below HO1.out hb2 (fun b hb => (HR1.out b hb).2)
      have HN2 : Hid _ := n2
      have HS2 : Hid (wc1.heap.size ≤ wc2.heap.size) := hb2.size
      have hh2 := Below.then hHeld hb2 hHeld.size
      clear o2 r2 n2 hb2 HO1
      refine hK.out _ _ (hh2) (fun hHeld => ?_)
      clear hK K
      refine wpAnyH_ready (rs := [9]) (by kernel_rfl) (by simp) ?_
      refine AllReadyH.cons rfl (fun K hK => ?_) AllReadyH.nil
      obtain ⟨⟨⟨x0, x1, x2, x3, x4, x5, x6, x7⟩, y0, y1, y2, y3, y4, y5, y6, y7⟩, -⟩ := XH.out
      go_simp
      clear x0 x1 x2 x3 x4 x5 x6 x7 y0 y1 y2 y3 y4 y5 y6 y7
      have XN : X8 (wc2.setCell ⟨w.heap.size, 6, none⟩ (.slice ta' (ln k U1) tc')) w.heap.size (.int .i64 3) (.int .i64 pv) (.int .i64 pvk) (.int .i64 pva) (.int .i64 pvb) (.int .i64 y) (.slice ta' (ln k U1) tc') (.slice ea le ec) := X8.of XH.out (XH.out.1.set6 _) (far1 _ _ _ _)
      have p1 : Own (wc2.setCell ⟨w.heap.size, 6, none⟩ (.slice ta' (ln k U1) tc')) k (.slice ta' (ln k U1) tc') U1 b1 := Own.set HO1'.out (a := ⟨w.heap.size, 6, none⟩) (fun b hb => by have := HR1.out b hb; show b ≠ w.heap.size; omega) _
      have p2 : Own (wc2.setCell ⟨w.heap.size, 6, none⟩ (.slice ta' (ln k U1) tc')) k (.slice ea' (ln k U2) ec') U2 b2 := Own.set HO2.out (a := ⟨w.heap.size, 6, none⟩) (fun b hb => by have := HR2.out b hb; have := HS1.out; show b ≠ w.heap.size; omega) _
      have hh3 : Below w.heap.size w (wc2.setCell ⟨w.heap.size, 6, none⟩ (.slice ta' (ln k U1) tc')) := Below.setCell (p := ⟨w.heap.size, 6, none⟩) hHeld (Nat.le_refl _) _
      have sz3 : (wc2.setCell ⟨w.heap.size, 6, none⟩ (.slice ta' (ln k U1) tc')).heap.size = wc2.heap.size := by simp [World.setCell]
      clear XH HO1' HO2
      generalize wc2.setCell ⟨w.heap.size, 6, none⟩ (.slice ta' (ln k U1) tc') = ws6 at XN p1 p2 hh3 sz3 ⊢
      have XH : Hid (X8 ws6 w.heap.size (.int .i64 3) (.int .i64 pv) (.int .i64 pvk) (.int .i64 pva) (.int .i64 pvb) (.int .i64 y) (.slice ta' (ln k U1) tc') (.slice ea le ec)) := XN
      have HP1 : Hid (Own ws6 k (.slice ta' (ln k U1) tc') U1 b1) := p1
      have HP2 : Hid (Own ws6 k (.slice ea' (ln k U2) ec') U2 b2) := p2
      have HZ6 : Hid (ws6.heap.size = wc2.heap.size) := sz3
      clear XN p1 p2 sz3
      refine hK.out _ _ (hh3) (fun hHeld => ?_)
      clear hK K
      refine' wpAnyH_take (i := 10) (v := _) rfl (by kernel_rfl) (by kernel_rfl) (by kernel_rfl) (fun _ _ _ h => h) (Or.inl ⟨by rfl, ?hy210⟩) hHeld ?hn210
      case hy210 => (intro wz hSw; go_simp; first | done | with_reducible rfl)
      try simp only [nrm, Act.put]
      refine wpAnyH_ready (rs := [11]) (by kernel_rfl) (by simp) ?_
      refine AllReadyH.cons rfl (fun K hK => ?_) AllReadyH.nil
      obtain ⟨⟨⟨x0, x1, x2, x3, x4, x5, x6, x7⟩, y0, y1, y2, y3, y4, y5, y6, y7⟩, -⟩ := XH.out
      go_simp
      clear x0 x1 x2 x3 x4 x5 x6 x7 y0 y1 y2 y3 y4 y5 y6 y7
      have XN : X8 (ws6.setCell ⟨w.heap.size, 7, none⟩ (.slice ea' (ln k U2) ec')) w.heap.size (.int .i64 3) (.int .i64 pv) (.int .i64 pvk) (.int .i64 pva) (.int .i64 pvb) (.int .i64 y) (.slice ta' (ln k U1) tc') (.slice ea' (ln k U2) ec') := X8.of XH.out (XH.out.1.set7 _) (far1 _ _ _ _)
      have p1 : Own (ws6.setCell ⟨w.heap.size, 7, none⟩ (.slice ea' (ln k U2) ec')) k (.slice ta' (ln k U1) tc') U1 b1 := Own.set HP1.out (a := ⟨w.heap.size, 7, none⟩) (fun b hb => by have := HR1.out b hb; show b ≠ w.heap.size; omega) _
      have p2 : Own (ws6.setCell ⟨w.heap.size, 7, none⟩ (.slice ea' (ln k U2) ec')) k (.slice ea' (ln k U2) ec') U2 b2 := Own.set HP2.out (a := ⟨w.heap.size, 7, none⟩) (fun b hb => by have := HR2.out b hb; have := HS1.out; show b ≠ w.heap.size; omega) _
      have hh3 : Below w.heap.size w (ws6.setCell ⟨w.heap.size, 7, none⟩ (.slice ea' (ln k U2) ec')) := Below.setCell (p := ⟨w.heap.size, 7, none⟩) hHeld (Nat.le_refl _) _
      have sz3 : (ws6.setCell ⟨w.heap.size, 7, none⟩ (.slice ea' (ln k U2) ec')).heap.size = ws6.heap.size := by simp [World.setCell]
      clear XH HP1 HP2
      generalize ws6.setCell ⟨w.heap.size, 7, none⟩ (.slice ea' (ln k U2) ec') = ws7 at XN p1 p2 hh3 sz3 ⊢
      have XH : Hid (X8 ws7 w.heap.size (.int .i64 3) (.int .i64 pv) (.int .i64 pvk) (.int .i64 pva) (.int .i64 pvb) (.int .i64 y) (.slice ta' (ln k U1) tc') (.slice ea' (ln k U2) ec')) := XN
      have HQ1 : Hid (Own ws7 k (.slice ta' (ln k U1) tc') U1 b1) := p1
      have HQ2 : Hid (Own ws7 k (.slice ea' (ln k U2) ec') U2 b2) := p2
      have HZ7 : Hid (ws7.heap.size = ws6.heap.size) := sz3
      clear XN p1 p2 sz3
      refine hK.out _ _ (hh3) (fun hHeld => ?_)
      clear hK K
      refine wpAnyH_done (by kernel_rfl) ?_ _
      obtain ⟨X1, z0, z1, z2, z3, z4, z5, z6, z7, Y1⟩ := XH.out
      have HY : Hid (C8 ws7 (w.heap.size + 1) z0 z1 z2 z3 z4 z5 z6 z7) := Y1
      obtain ⟨⟨x0, x1, x2, x3, x4, x5, x6, x7⟩, -⟩ := X1
      obtain ⟨⟨y0, y1, y2, y3, y4, y5, y6, y7⟩, v0, v1, v2, v3, v4, v5, v6, v7⟩ := Y1
      have HB : Hid (Below w.heap.size w ws7) := hHeld
      clear hHeld
      go_wp2
      have AF := st8_c8 HY.out (.int .i64 3) (.int .i64 pv) (.int .i64 pvk) (.int .i64 pva) (.int .i64 pvb) (.int .i64 y) (.slice ta' (ln k U1) tc') (.slice ea' (ln k U2) ec')
      have BF := st8_below HB.out (show w.heap.size ≤ w.heap.size + 1 by omega) (.int .i64 3) (.int .i64 pv) (.int .i64 pvk) (.int .i64 pva) (.int .i64 pvb) (.int .i64 y) (.slice ta' (ln k U1) tc') (.slice ea' (ln k U2) ec')
      have hh : ∀ b, b ≠ w.heap.size + 1 → _ := fun b hb => st8_heap ws7 (w.heap.size + 1) b hb (.int .i64 3) (.int .i64 pv) (.int .i64 pvk) (.int .i64 pva) (.int .i64 pvb) (.int .i64 y) (.slice ta' (ln k U1) tc') (.slice ea' (ln k U2) ec')
      have sF := st8_size ws7 (w.heap.size + 1) (.int .i64 3) (.int .i64 pv) (.int .i64 pvk) (.int .i64 pva) (.int .i64 pvb) (.int .i64 y) (.slice ta' (ln k U1) tc') (.slice ea' (ln k U2) ec')
      generalize ((((((((ws7).setCell ⟨w.heap.size + 1, 0, none⟩ (.int .i64 3)).setCell ⟨w.heap.size + 1, 1, none⟩ (.int .i64 pv)).setCell ⟨w.heap.size + 1, 2, none⟩ (.int .i64 pvk)).setCell ⟨w.heap.size + 1, 3, none⟩ (.int .i64 pva)).setCell ⟨w.heap.size + 1, 4, none⟩ (.int .i64 pvb)).setCell ⟨w.heap.size + 1, 5, none⟩ (.int .i64 y)).setCell ⟨w.heap.size + 1, 6, none⟩ (.slice ta' (ln k U1) tc')).setCell ⟨w.heap.size + 1, 7, none⟩ (.slice ea' (ln k U2) ec') = wf at AF BF hh sF ⊢
      obtain ⟨⟨c0, c1, c2, c3, c4, c5, c6, c7⟩, -⟩ := AF
      refine bodyPost_ret (v := payV ⟨3, pv, pvk, pva, pvb, y⟩ (.slice ta' (ln k U1) tc') (.slice ea' (ln k U2) ec')) (by simp [payV, results, Tryz.results29, go_sem, c0, c1, c2, c3, c4, c5, c6, c7]) rfl ?_
      have r1 : ∀ b ∈ b1, w.heap.size + 1 < b ∧ b < wc1.heap.size := HR1.out
      have r2 : ∀ b ∈ b2, wc1.heap.size ≤ b ∧ b < wc2.heap.size := HR2.out
      have q1 := HS1.out
      have q2 := HS2.out
      have q3 := HZ6.out
      have q4 := HZ7.out
      refine ⟨_, _, b1, b2, by rw [HF.out], BF, ?_, ?_, ?_, ?_⟩
      · rw [HU1.out]; exact Own.frame (fun b hb => hh b (by have := r1 b hb; omega)) HQ1.out
      · rw [HU2.out]; exact Own.frame (fun b hb => hh b (by have := r2 b hb; omega)) HQ2.out
      · intro b hb
        rcases List.mem_append.1 hb with hb | hb
        · have := r1 b hb; omega
        · have := r2 b hb; omega
      · refine List.nodup_append.2 ⟨HN1.out, HN2.out, ?_⟩
        intro a ha b hb
        have := r1 a ha
        have := r2 b hb
        omega
  · have HF : Hid (hostF zs ⟨pk, pv, pvk, pva, pvb, ph⟩ = ⟨pk, pv, pvk, pva, pvb, ph⟩) := (show hostF zs ⟨pk, pv, pvk, pva, pvb, ph⟩ = ⟨pk, pv, pvk, pva, pvb, ph⟩ by unfold hostF; rw [if_neg hk])
    go_enter Tryz.func29, Tryz.ntmps29
    go_upto_region 3 with fail
    have XA := X8.new w (.int .i64 pk) (.int .i64 pv) (.int .i64 pvk) (.int .i64 pva) (.int .i64 pvb) (.int .i64 ph) (.slice ta lt tc) (.slice ea le ec) 66
    have hHeld : Below w.heap.size w ((w.alloc (.cells #[(.int .i64 pk), (.int .i64 pv), (.int .i64 pvk), (.int .i64 pva), (.int .i64 pvb), (.int .i64 ph), (.slice ta lt tc), (.slice ea le ec)] 66)).alloc (.cells #[.int .i64 0, .int .i64 0, .int .i64 0, .int .i64 0, .int .i64 0, .int .i64 0, .slice none 0 0, .slice none 0 0] 66)) := ((Below.refl _ _).alloc (Nat.le_refl _) _).alloc (by simp) _
    have sA : w.heap.size + 1 < ((w.alloc (.cells #[(.int .i64 pk), (.int .i64 pv), (.int .i64 pvk), (.int .i64 pva), (.int .i64 pvb), (.int .i64 ph), (.slice ta lt tc), (.slice ea le ec)] 66)).alloc (.cells #[.int .i64 0, .int .i64 0, .int .i64 0, .int .i64 0, .int .i64 0, .int .i64 0, .slice none 0 0, .slice none 0 0] 66)).heap.size := by simp
    generalize (w.alloc (.cells #[(.int .i64 pk), (.int .i64 pv), (.int .i64 pvk), (.int .i64 pva), (.int .i64 pvb), (.int .i64 ph), (.slice ta lt tc), (.slice ea le ec)] 66)).alloc (.cells #[.int .i64 0, .int .i64 0, .int .i64 0, .int .i64 0, .int .i64 0, .int .i64 0, .slice none 0 0, .slice none 0 0] 66) = wA at XA hHeld sA ⊢
    replace XA := XA.below ((Below.refl _ _).drew)
    replace hHeld := hHeld.drew
    replace sA : w.heap.size + 1 < wA.drew.heap.size := sA
    refine wp_region_held (S := (fun wz => Below w.heap.size w wz)) (by kernel_rfl) ?_
    change wpAnyH _ _ _ _ _ _ _ _ (World.drew _)
    generalize wA.drew = wD at XA hHeld sA ⊢
    have XH : Hid (X8 wD w.heap.size (.int .i64 pk) (.int .i64 pv) (.int .i64 pvk) (.int .i64 pva) (.int .i64 pvb) (.int .i64 ph) (.slice ta lt tc) (.slice ea le ec)) := XA
    have HS : Hid (w.heap.size + 1 < wD.heap.size) := sA
    clear XA sA
    refine' wpAnyH_take (i := 0) (v := _) rfl (by kernel_rfl) (by kernel_rfl) (by kernel_rfl) (fun _ _ _ h => h) (Or.inl ⟨by rfl, ?hy211⟩) hHeld ?hn211
    case hy211 => (intro wz hSw; go_simp; first | done | with_reducible rfl)
    try simp only [nrm, Act.put]
    refine' wpAnyH_take (i := 2) (v := _) rfl (by kernel_rfl) (by kernel_rfl) (by kernel_rfl) (fun _ _ _ h => h) (Or.inl ⟨by rfl, ?hy212⟩) hHeld ?hn212
    case hy212 => (intro wz hSw; go_simp; first | done | with_reducible rfl)
    try simp only [nrm, Act.put]
    refine' wpAnyH_take (i := 4) (v := _) rfl (by kernel_rfl) (by kernel_rfl) (by kernel_rfl) (fun _ _ _ h => h) (Or.inl ⟨by rfl, ?hy213⟩) hHeld ?hn213
    case hy213 => (intro wz hSw; go_simp; first | done | with_reducible rfl)
    try simp only [nrm, Act.put]
    refine' wpAnyH_take (i := 6) (v := _) rfl (by kernel_rfl) (by kernel_rfl) (by kernel_rfl) (fun _ _ _ h => h) (Or.inl ⟨by rfl, ?hy214⟩) hHeld ?hn214
    case hy214 => (intro wz hSw; go_simp; first | done | with_reducible rfl)
    try simp only [nrm, Act.put]
    refine wpAnyH_ready (rs := [1, 5]) (by kernel_rfl) (by simp) ?_
    refine AllReadyH.cons rfl (fun K hK => ?_) (AllReadyH.cons rfl (fun K hK => ?_) AllReadyH.nil)
    · obtain ⟨⟨⟨x0, x1, x2, x3, x4, x5, x6, x7⟩, y0, y1, y2, y3, y4, y5, y6, y7⟩, -⟩ := XH.out
      go_simp
      clear x0 x1 x2 x3 x4 x5 x6 x7 y0 y1 y2 y3 y4 y5 y6 y7
      refine hK.out _ _ (hHeld) (fun hHeld => ?_)
      clear hK K
      refine wpAnyH_ready (rs := [3, 5]) (by kernel_rfl) (by simp) ?_
      refine AllReadyH.cons rfl (fun K hK => ?_) (AllReadyH.cons rfl (fun K hK => ?_) AllReadyH.nil)
      · go_simp
        refine Calls.mono (C1.out _ hHeld) ?_
        rintro e' wc1 ⟨v', b1, rfl, hb1, o1, r1, n1⟩
        rw [HU1.out] at o1
        obtain ⟨ta', tc', rfl⟩ := o1.slice
        have XN : Hid (X8 wc1 w.heap.size (.int .i64 pk) (.int .i64 pv) (.int .i64 pvk) (.int .i64 pva) (.int .i64 pvb) (.int .i64 ph) (.slice ta lt tc) (.slice ea le ec)) := XH.out.below hb1
        clear XH
        have XH : Hid (X8 wc1 w.heap.size (.int .i64 pk) (.int .i64 pv) (.int .i64 pvk) (.int .i64 pva) (.int .i64 pvb) (.int .i64 ph) (.slice ta lt tc) (.slice ea le ec)) := XN.out
        clear XN
        have HR1 : Hid (∀ b ∈ b1, w.heap.size + 1 < b ∧ b < wc1.heap.size) := (show ∀ b ∈ b1, _ from fun b hb => by have := r1 b hb; have := HS.out; omega)
        have HO1 : Hid (Own wc1 k (.slice ta' (ln k U1) tc') U1 b1) := o1
        have HN1 : Hid _ := n1
        have HS1 : Hid (w.heap.size + 1 < wc1.heap.size) := (show w.heap.size + 1 < wc1.heap.size by have := hb1.size; have := HS.out; omega)
        have hh1 := Below.then hHeld hb1 hHeld.size
        clear o1 r1 n1 hb1 HS
        refine hK.out _ _ (hh1) (fun hHeld => ?_)
        clear hK K
        refine wpAnyH_ready (rs := [5]) (by kernel_rfl) (by simp) ?_
        refine AllReadyH.cons rfl (fun K hK => ?_) AllReadyH.nil
        obtain ⟨⟨⟨x0, x1, x2, x3, x4, x5, x6, x7⟩, y0, y1, y2, y3, y4, y5, y6, y7⟩, -⟩ := XH.out
        go_simp
        clear x0 x1 x2 x3 x4 x5 x6 x7 y0 y1 y2 y3 y4 y5 y6 y7
        refine hK.out _ _ (hHeld) (fun hHeld => ?_)
        clear hK K
        refine' wpAnyH_take (i := 8) (v := _) rfl (by kernel_rfl) (by kernel_rfl) (by kernel_rfl) (fun _ _ _ h => h) (Or.inl ⟨by rfl, ?hy215⟩) hHeld ?hn215
        case hy215 => (intro wz hSw; go_simp; first | done | with_reducible rfl)
        try simp only [nrm, Act.put]
        refine wpAnyH_ready (rs := [7]) (by kernel_rfl) (by simp) ?_
        refine AllReadyH.cons rfl (fun K hK => ?_) AllReadyH.nil
        go_simp
        refine Calls.mono (C2.out _ hHeld) ?_
        rintro e' wc2 ⟨v', b2, rfl, hb2, o2, r2, n2⟩
        rw [HU2.out] at o2
        obtain ⟨ea', ec', rfl⟩ := o2.slice
        have XN : Hid (X8 wc2 w.heap.size (.int .i64 pk) (.int .i64 pv) (.int .i64 pvk) (.int .i64 pva) (.int .i64 pvb) (.int .i64 ph) (.slice ta lt tc) (.slice ea le ec)) := XH.out.below hb2
        clear XH
        have XH : Hid (X8 wc2 w.heap.size (.int .i64 pk) (.int .i64 pv) (.int .i64 pvk) (.int .i64 pva) (.int .i64 pvb) (.int .i64 ph) (.slice ta lt tc) (.slice ea le ec)) := XN.out
        clear XN
        have HR2 : Hid (∀ b ∈ b2, wc1.heap.size ≤ b ∧ b < wc2.heap.size) := r2
        have HO2 : Hid (Own wc2 k (.slice ea' (ln k U2) ec') U2 b2) := o2
        have HO1' : Hid (Own wc2 k (.slice ta' (ln k U1) tc') U1 b1) := Own.below HO1.out hb2 (fun b hb => (HR1.out b hb).2)
        have HN2 : Hid _ := n2
        have HS2 : Hid (wc1.heap.size ≤ wc2.heap.size) := hb2.size
        have hh2 := Below.then hHeld hb2 hHeld.size
        clear o2 r2 n2 hb2 HO1
        refine hK.out _ _ (hh2) (fun hHeld => ?_)
        clear hK K
        refine wpAnyH_ready (rs := [9]) (by kernel_rfl) (by simp) ?_
        refine AllReadyH.cons rfl (fun K hK => ?_) AllReadyH.nil
        obtain ⟨⟨⟨x0, x1, x2, x3, x4, x5, x6, x7⟩, y0, y1, y2, y3, y4, y5, y6, y7⟩, -⟩ := XH.out
        go_simp
        clear x0 x1 x2 x3 x4 x5 x6 x7 y0 y1 y2 y3 y4 y5 y6 y7
        have XN : X8 (wc2.setCell ⟨w.heap.size, 6, none⟩ (.slice ta' (ln k U1) tc')) w.heap.size (.int .i64 pk) (.int .i64 pv) (.int .i64 pvk) (.int .i64 pva) (.int .i64 pvb) (.int .i64 ph) (.slice ta' (ln k U1) tc') (.slice ea le ec) := X8.of XH.out (XH.out.1.set6 _) (far1 _ _ _ _)
        have p1 : Own (wc2.setCell ⟨w.heap.size, 6, none⟩ (.slice ta' (ln k U1) tc')) k (.slice ta' (ln k U1) tc') U1 b1 := Own.set HO1'.out (a := ⟨w.heap.size, 6, none⟩) (fun b hb => by have := HR1.out b hb; show b ≠ w.heap.size; omega) _
        have p2 : Own (wc2.setCell ⟨w.heap.size, 6, none⟩ (.slice ta' (ln k U1) tc')) k (.slice ea' (ln k U2) ec') U2 b2 := Own.set HO2.out (a := ⟨w.heap.size, 6, none⟩) (fun b hb => by have := HR2.out b hb; have := HS1.out; show b ≠ w.heap.size; omega) _
        have hh3 : Below w.heap.size w (wc2.setCell ⟨w.heap.size, 6, none⟩ (.slice ta' (ln k U1) tc')) := Below.setCell (p := ⟨w.heap.size, 6, none⟩) hHeld (Nat.le_refl _) _
        have sz3 : (wc2.setCell ⟨w.heap.size, 6, none⟩ (.slice ta' (ln k U1) tc')).heap.size = wc2.heap.size := by simp [World.setCell]
        clear XH HO1' HO2
        generalize wc2.setCell ⟨w.heap.size, 6, none⟩ (.slice ta' (ln k U1) tc') = ws6 at XN p1 p2 hh3 sz3 ⊢
        have XH : Hid (X8 ws6 w.heap.size (.int .i64 pk) (.int .i64 pv) (.int .i64 pvk) (.int .i64 pva) (.int .i64 pvb) (.int .i64 ph) (.slice ta' (ln k U1) tc') (.slice ea le ec)) := XN
        have HP1 : Hid (Own ws6 k (.slice ta' (ln k U1) tc') U1 b1) := p1
        have HP2 : Hid (Own ws6 k (.slice ea' (ln k U2) ec') U2 b2) := p2
        have HZ6 : Hid (ws6.heap.size = wc2.heap.size) := sz3
        clear XN p1 p2 sz3
        refine hK.out _ _ (hh3) (fun hHeld => ?_)
        clear hK K
        refine' wpAnyH_take (i := 10) (v := _) rfl (by kernel_rfl) (by kernel_rfl) (by kernel_rfl) (fun _ _ _ h => h) (Or.inl ⟨by rfl, ?hy216⟩) hHeld ?hn216
        case hy216 => (intro wz hSw; go_simp; first | done | with_reducible rfl)
        try simp only [nrm, Act.put]
        refine wpAnyH_ready (rs := [11]) (by kernel_rfl) (by simp) ?_
        refine AllReadyH.cons rfl (fun K hK => ?_) AllReadyH.nil
        obtain ⟨⟨⟨x0, x1, x2, x3, x4, x5, x6, x7⟩, y0, y1, y2, y3, y4, y5, y6, y7⟩, -⟩ := XH.out
        go_simp
        clear x0 x1 x2 x3 x4 x5 x6 x7 y0 y1 y2 y3 y4 y5 y6 y7
        have XN : X8 (ws6.setCell ⟨w.heap.size, 7, none⟩ (.slice ea' (ln k U2) ec')) w.heap.size (.int .i64 pk) (.int .i64 pv) (.int .i64 pvk) (.int .i64 pva) (.int .i64 pvb) (.int .i64 ph) (.slice ta' (ln k U1) tc') (.slice ea' (ln k U2) ec') := X8.of XH.out (XH.out.1.set7 _) (far1 _ _ _ _)
        have p1 : Own (ws6.setCell ⟨w.heap.size, 7, none⟩ (.slice ea' (ln k U2) ec')) k (.slice ta' (ln k U1) tc') U1 b1 := Own.set HP1.out (a := ⟨w.heap.size, 7, none⟩) (fun b hb => by have := HR1.out b hb; show b ≠ w.heap.size; omega) _
        have p2 : Own (ws6.setCell ⟨w.heap.size, 7, none⟩ (.slice ea' (ln k U2) ec')) k (.slice ea' (ln k U2) ec') U2 b2 := Own.set HP2.out (a := ⟨w.heap.size, 7, none⟩) (fun b hb => by have := HR2.out b hb; have := HS1.out; show b ≠ w.heap.size; omega) _
        have hh3 : Below w.heap.size w (ws6.setCell ⟨w.heap.size, 7, none⟩ (.slice ea' (ln k U2) ec')) := Below.setCell (p := ⟨w.heap.size, 7, none⟩) hHeld (Nat.le_refl _) _
        have sz3 : (ws6.setCell ⟨w.heap.size, 7, none⟩ (.slice ea' (ln k U2) ec')).heap.size = ws6.heap.size := by simp [World.setCell]
        clear XH HP1 HP2
        generalize ws6.setCell ⟨w.heap.size, 7, none⟩ (.slice ea' (ln k U2) ec') = ws7 at XN p1 p2 hh3 sz3 ⊢
        have XH : Hid (X8 ws7 w.heap.size (.int .i64 pk) (.int .i64 pv) (.int .i64 pvk) (.int .i64 pva) (.int .i64 pvb) (.int .i64 ph) (.slice ta' (ln k U1) tc') (.slice ea' (ln k U2) ec')) := XN
        have HQ1 : Hid (Own ws7 k (.slice ta' (ln k U1) tc') U1 b1) := p1
        have HQ2 : Hid (Own ws7 k (.slice ea' (ln k U2) ec') U2 b2) := p2
        have HZ7 : Hid (ws7.heap.size = ws6.heap.size) := sz3
        clear XN p1 p2 sz3
        refine hK.out _ _ (hh3) (fun hHeld => ?_)
        clear hK K
        refine wpAnyH_done (by kernel_rfl) ?_ _
        obtain ⟨X1, z0, z1, z2, z3, z4, z5, z6, z7, Y1⟩ := XH.out
        have HY : Hid (C8 ws7 (w.heap.size + 1) z0 z1 z2 z3 z4 z5 z6 z7) := Y1
        obtain ⟨⟨x0, x1, x2, x3, x4, x5, x6, x7⟩, -⟩ := X1
        obtain ⟨⟨y0, y1, y2, y3, y4, y5, y6, y7⟩, v0, v1, v2, v3, v4, v5, v6, v7⟩ := Y1
        have HB : Hid (Below w.heap.size w ws7) := hHeld
        clear hHeld
        go_wp2
        have AF := st8_c8 HY.out (.int .i64 pk) (.int .i64 pv) (.int .i64 pvk) (.int .i64 pva) (.int .i64 pvb) (.int .i64 ph) (.slice ta' (ln k U1) tc') (.slice ea' (ln k U2) ec')
        have BF := st8_below HB.out (show w.heap.size ≤ w.heap.size + 1 by omega) (.int .i64 pk) (.int .i64 pv) (.int .i64 pvk) (.int .i64 pva) (.int .i64 pvb) (.int .i64 ph) (.slice ta' (ln k U1) tc') (.slice ea' (ln k U2) ec')
        have hh : ∀ b, b ≠ w.heap.size + 1 → _ := fun b hb => st8_heap ws7 (w.heap.size + 1) b hb (.int .i64 pk) (.int .i64 pv) (.int .i64 pvk) (.int .i64 pva) (.int .i64 pvb) (.int .i64 ph) (.slice ta' (ln k U1) tc') (.slice ea' (ln k U2) ec')
        have sF := st8_size ws7 (w.heap.size + 1) (.int .i64 pk) (.int .i64 pv) (.int .i64 pvk) (.int .i64 pva) (.int .i64 pvb) (.int .i64 ph) (.slice ta' (ln k U1) tc') (.slice ea' (ln k U2) ec')
        generalize ((((((((ws7).setCell ⟨w.heap.size + 1, 0, none⟩ (.int .i64 pk)).setCell ⟨w.heap.size + 1, 1, none⟩ (.int .i64 pv)).setCell ⟨w.heap.size + 1, 2, none⟩ (.int .i64 pvk)).setCell ⟨w.heap.size + 1, 3, none⟩ (.int .i64 pva)).setCell ⟨w.heap.size + 1, 4, none⟩ (.int .i64 pvb)).setCell ⟨w.heap.size + 1, 5, none⟩ (.int .i64 ph)).setCell ⟨w.heap.size + 1, 6, none⟩ (.slice ta' (ln k U1) tc')).setCell ⟨w.heap.size + 1, 7, none⟩ (.slice ea' (ln k U2) ec') = wf at AF BF hh sF ⊢
        obtain ⟨⟨c0, c1, c2, c3, c4, c5, c6, c7⟩, -⟩ := AF
        refine bodyPost_ret (v := payV ⟨pk, pv, pvk, pva, pvb, ph⟩ (.slice ta' (ln k U1) tc') (.slice ea' (ln k U2) ec')) (by simp [payV, results, Tryz.results29, go_sem, c0, c1, c2, c3, c4, c5, c6, c7]) rfl ?_
        have r1 : ∀ b ∈ b1, w.heap.size + 1 < b ∧ b < wc1.heap.size := HR1.out
        have r2 : ∀ b ∈ b2, wc1.heap.size ≤ b ∧ b < wc2.heap.size := HR2.out
        have q1 := HS1.out
        have q2 := HS2.out
        have q3 := HZ6.out
        have q4 := HZ7.out
        refine ⟨_, _, b1, b2, by rw [HF.out], BF, ?_, ?_, ?_, ?_⟩
        · rw [HU1.out]; exact Own.frame (fun b hb => hh b (by have := r1 b hb; omega)) HQ1.out
        · rw [HU2.out]; exact Own.frame (fun b hb => hh b (by have := r2 b hb; omega)) HQ2.out
        · intro b hb
          rcases List.mem_append.1 hb with hb | hb
          · have := r1 b hb; omega
          · have := r2 b hb; omega
        · refine List.nodup_append.2 ⟨HN1.out, HN2.out, ?_⟩
          intro a ha b hb
          have := r1 a ha
          have := r2 b hb
          omega
      · obtain ⟨⟨⟨x0, x1, x2, x3, x4, x5, x6, x7⟩, y0, y1, y2, y3, y4, y5, y6, y7⟩, -⟩ := XH.out
        go_simp
        clear x0 x1 x2 x3 x4 x5 x6 x7 y0 y1 y2 y3 y4 y5 y6 y7
        refine hK.out _ _ (hHeld) (fun hHeld => ?_)
        clear hK K
        refine wpAnyH_ready (rs := [3]) (by kernel_rfl) (by simp) ?_
        refine AllReadyH.cons rfl (fun K hK => ?_) AllReadyH.nil
        go_simp
        refine Calls.mono (C1.out _ hHeld) ?_
        rintro e' wc1 ⟨v', b1, rfl, hb1, o1, r1, n1⟩
        rw [HU1.out] at o1
        obtain ⟨ta', tc', rfl⟩ := o1.slice
        have XN : Hid (X8 wc1 w.heap.size (.int .i64 pk) (.int .i64 pv) (.int .i64 pvk) (.int .i64 pva) (.int .i64 pvb) (.int .i64 ph) (.slice ta lt tc) (.slice ea le ec)) := XH.out.below hb1
        clear XH
        have XH : Hid (X8 wc1 w.heap.size (.int .i64 pk) (.int .i64 pv) (.int .i64 pvk) (.int .i64 pva) (.int .i64 pvb) (.int .i64 ph) (.slice ta lt tc) (.slice ea le ec)) := XN.out
        clear XN
        have HR1 : Hid (∀ b ∈ b1, w.heap.size + 1 < b ∧ b < wc1.heap.size) := (show ∀ b ∈ b1, _ from fun b hb => by have := r1 b hb; have := HS.out; omega)
        have HO1 : Hid (Own wc1 k (.slice ta' (ln k U1) tc') U1 b1) := o1
        have HN1 : Hid _ := n1
        have HS1 : Hid (w.heap.size + 1 < wc1.heap.size) := (show w.heap.size + 1 < wc1.heap.size by have := hb1.size; have := HS.out; omega)
        have hh1 := Below.then hHeld hb1 hHeld.size
        clear o1 r1 n1 hb1 HS
        refine hK.out _ _ (hh1) (fun hHeld => ?_)
        clear hK K
        refine' wpAnyH_take (i := 8) (v := _) rfl (by kernel_rfl) (by kernel_rfl) (by kernel_rfl) (fun _ _ _ h => h) (Or.inl ⟨by rfl, ?hy217⟩) hHeld ?hn217
        case hy217 => (intro wz hSw; go_simp; first | done | with_reducible rfl)
        try simp only [nrm, Act.put]
        refine wpAnyH_ready (rs := [7]) (by kernel_rfl) (by simp) ?_
        refine AllReadyH.cons rfl (fun K hK => ?_) AllReadyH.nil
        go_simp
        refine Calls.mono (C2.out _ hHeld) ?_
        rintro e' wc2 ⟨v', b2, rfl, hb2, o2, r2, n2⟩
        rw [HU2.out] at o2
        obtain ⟨ea', ec', rfl⟩ := o2.slice
        have XN : Hid (X8 wc2 w.heap.size (.int .i64 pk) (.int .i64 pv) (.int .i64 pvk) (.int .i64 pva) (.int .i64 pvb) (.int .i64 ph) (.slice ta lt tc) (.slice ea le ec)) := XH.out.below hb2
        clear XH
        have XH : Hid (X8 wc2 w.heap.size (.int .i64 pk) (.int .i64 pv) (.int .i64 pvk) (.int .i64 pva) (.int .i64 pvb) (.int .i64 ph) (.slice ta lt tc) (.slice ea le ec)) := XN.out
        clear XN
        have HR2 : Hid (∀ b ∈ b2, wc1.heap.size ≤ b ∧ b < wc2.heap.size) := r2
        have HO2 : Hid (Own wc2 k (.slice ea' (ln k U2) ec') U2 b2) := o2
        have HO1' : Hid (Own wc2 k (.slice ta' (ln k U1) tc') U1 b1) := Own.below HO1.out hb2 (fun b hb => (HR1.out b hb).2)
        have HN2 : Hid _ := n2
        have HS2 : Hid (wc1.heap.size ≤ wc2.heap.size) := hb2.size
        have hh2 := Below.then hHeld hb2 hHeld.size
        clear o2 r2 n2 hb2 HO1
        refine hK.out _ _ (hh2) (fun hHeld => ?_)
        clear hK K
        refine wpAnyH_ready (rs := [9]) (by kernel_rfl) (by simp) ?_
        refine AllReadyH.cons rfl (fun K hK => ?_) AllReadyH.nil
        obtain ⟨⟨⟨x0, x1, x2, x3, x4, x5, x6, x7⟩, y0, y1, y2, y3, y4, y5, y6, y7⟩, -⟩ := XH.out
        go_simp
        clear x0 x1 x2 x3 x4 x5 x6 x7 y0 y1 y2 y3 y4 y5 y6 y7
        have XN : X8 (wc2.setCell ⟨w.heap.size, 6, none⟩ (.slice ta' (ln k U1) tc')) w.heap.size (.int .i64 pk) (.int .i64 pv) (.int .i64 pvk) (.int .i64 pva) (.int .i64 pvb) (.int .i64 ph) (.slice ta' (ln k U1) tc') (.slice ea le ec) := X8.of XH.out (XH.out.1.set6 _) (far1 _ _ _ _)
        have p1 : Own (wc2.setCell ⟨w.heap.size, 6, none⟩ (.slice ta' (ln k U1) tc')) k (.slice ta' (ln k U1) tc') U1 b1 := Own.set HO1'.out (a := ⟨w.heap.size, 6, none⟩) (fun b hb => by have := HR1.out b hb; show b ≠ w.heap.size; omega) _
        have p2 : Own (wc2.setCell ⟨w.heap.size, 6, none⟩ (.slice ta' (ln k U1) tc')) k (.slice ea' (ln k U2) ec') U2 b2 := Own.set HO2.out (a := ⟨w.heap.size, 6, none⟩) (fun b hb => by have := HR2.out b hb; have := HS1.out; show b ≠ w.heap.size; omega) _
        have hh3 : Below w.heap.size w (wc2.setCell ⟨w.heap.size, 6, none⟩ (.slice ta' (ln k U1) tc')) := Below.setCell (p := ⟨w.heap.size, 6, none⟩) hHeld (Nat.le_refl _) _
        have sz3 : (wc2.setCell ⟨w.heap.size, 6, none⟩ (.slice ta' (ln k U1) tc')).heap.size = wc2.heap.size := by simp [World.setCell]
        clear XH HO1' HO2
        generalize wc2.setCell ⟨w.heap.size, 6, none⟩ (.slice ta' (ln k U1) tc') = ws6 at XN p1 p2 hh3 sz3 ⊢
        have XH : Hid (X8 ws6 w.heap.size (.int .i64 pk) (.int .i64 pv) (.int .i64 pvk) (.int .i64 pva) (.int .i64 pvb) (.int .i64 ph) (.slice ta' (ln k U1) tc') (.slice ea le ec)) := XN
        have HP1 : Hid (Own ws6 k (.slice ta' (ln k U1) tc') U1 b1) := p1
        have HP2 : Hid (Own ws6 k (.slice ea' (ln k U2) ec') U2 b2) := p2
        have HZ6 : Hid (ws6.heap.size = wc2.heap.size) := sz3
        clear XN p1 p2 sz3
        refine hK.out _ _ (hh3) (fun hHeld => ?_)
        clear hK K
        refine' wpAnyH_take (i := 10) (v := _) rfl (by kernel_rfl) (by kernel_rfl) (by kernel_rfl) (fun _ _ _ h => h) (Or.inl ⟨by rfl, ?hy218⟩) hHeld ?hn218
        case hy218 => (intro wz hSw; go_simp; first | done | with_reducible rfl)
        try simp only [nrm, Act.put]
        refine wpAnyH_ready (rs := [11]) (by kernel_rfl) (by simp) ?_
        refine AllReadyH.cons rfl (fun K hK => ?_) AllReadyH.nil
        obtain ⟨⟨⟨x0, x1, x2, x3, x4, x5, x6, x7⟩, y0, y1, y2, y3, y4, y5, y6, y7⟩, -⟩ := XH.out
        go_simp
        clear x0 x1 x2 x3 x4 x5 x6 x7 y0 y1 y2 y3 y4 y5 y6 y7
        have XN : X8 (ws6.setCell ⟨w.heap.size, 7, none⟩ (.slice ea' (ln k U2) ec')) w.heap.size (.int .i64 pk) (.int .i64 pv) (.int .i64 pvk) (.int .i64 pva) (.int .i64 pvb) (.int .i64 ph) (.slice ta' (ln k U1) tc') (.slice ea' (ln k U2) ec') := X8.of XH.out (XH.out.1.set7 _) (far1 _ _ _ _)
        have p1 : Own (ws6.setCell ⟨w.heap.size, 7, none⟩ (.slice ea' (ln k U2) ec')) k (.slice ta' (ln k U1) tc') U1 b1 := Own.set HP1.out (a := ⟨w.heap.size, 7, none⟩) (fun b hb => by have := HR1.out b hb; show b ≠ w.heap.size; omega) _
        have p2 : Own (ws6.setCell ⟨w.heap.size, 7, none⟩ (.slice ea' (ln k U2) ec')) k (.slice ea' (ln k U2) ec') U2 b2 := Own.set HP2.out (a := ⟨w.heap.size, 7, none⟩) (fun b hb => by have := HR2.out b hb; have := HS1.out; show b ≠ w.heap.size; omega) _
        have hh3 : Below w.heap.size w (ws6.setCell ⟨w.heap.size, 7, none⟩ (.slice ea' (ln k U2) ec')) := Below.setCell (p := ⟨w.heap.size, 7, none⟩) hHeld (Nat.le_refl _) _
        have sz3 : (ws6.setCell ⟨w.heap.size, 7, none⟩ (.slice ea' (ln k U2) ec')).heap.size = ws6.heap.size := by simp [World.setCell]
        clear XH HP1 HP2
        generalize ws6.setCell ⟨w.heap.size, 7, none⟩ (.slice ea' (ln k U2) ec') = ws7 at XN p1 p2 hh3 sz3 ⊢
        have XH : Hid (X8 ws7 w.heap.size (.int .i64 pk) (.int .i64 pv) (.int .i64 pvk) (.int .i64 pva) (.int .i64 pvb) (.int .i64 ph) (.slice ta' (ln k U1) tc') (.slice ea' (ln k U2) ec')) := XN
        have HQ1 : Hid (Own ws7 k (.slice ta' (ln k U1) tc') U1 b1) := p1
        have HQ2 : Hid (Own ws7 k (.slice ea' (ln k U2) ec') U2 b2) := p2
        have HZ7 : Hid (ws7.heap.size = ws6.heap.size) := sz3
        clear XN p1 p2 sz3
        refine hK.out _ _ (hh3) (fun hHeld => ?_)
        clear hK K
        refine wpAnyH_done (by kernel_rfl) ?_ _
        obtain ⟨X1, z0, z1, z2, z3, z4, z5, z6, z7, Y1⟩ := XH.out
        have HY : Hid (C8 ws7 (w.heap.size + 1) z0 z1 z2 z3 z4 z5 z6 z7) := Y1
        obtain ⟨⟨x0, x1, x2, x3, x4, x5, x6, x7⟩, -⟩ := X1
        obtain ⟨⟨y0, y1, y2, y3, y4, y5, y6, y7⟩, v0, v1, v2, v3, v4, v5, v6, v7⟩ := Y1
        have HB : Hid (Below w.heap.size w ws7) := hHeld
        clear hHeld
        go_wp2
        have AF := st8_c8 HY.out (.int .i64 pk) (.int .i64 pv) (.int .i64 pvk) (.int .i64 pva) (.int .i64 pvb) (.int .i64 ph) (.slice ta' (ln k U1) tc') (.slice ea' (ln k U2) ec')
        have BF := st8_below HB.out (show w.heap.size ≤ w.heap.size + 1 by omega) (.int .i64 pk) (.int .i64 pv) (.int .i64 pvk) (.int .i64 pva) (.int .i64 pvb) (.int .i64 ph) (.slice ta' (ln k U1) tc') (.slice ea' (ln k U2) ec')
        have hh : ∀ b, b ≠ w.heap.size + 1 → _ := fun b hb => st8_heap ws7 (w.heap.size + 1) b hb (.int .i64 pk) (.int .i64 pv) (.int .i64 pvk) (.int .i64 pva) (.int .i64 pvb) (.int .i64 ph) (.slice ta' (ln k U1) tc') (.slice ea' (ln k U2) ec')
        have sF := st8_size ws7 (w.heap.size + 1) (.int .i64 pk) (.int .i64 pv) (.int .i64 pvk) (.int .i64 pva) (.int .i64 pvb) (.int .i64 ph) (.slice ta' (ln k U1) tc') (.slice ea' (ln k U2) ec')
        generalize ((((((((ws7).setCell ⟨w.heap.size + 1, 0, none⟩ (.int .i64 pk)).setCell ⟨w.heap.size + 1, 1, none⟩ (.int .i64 pv)).setCell ⟨w.heap.size + 1, 2, none⟩ (.int .i64 pvk)).setCell ⟨w.heap.size + 1, 3, none⟩ (.int .i64 pva)).setCell ⟨w.heap.size + 1, 4, none⟩ (.int .i64 pvb)).setCell ⟨w.heap.size + 1, 5, none⟩ (.int .i64 ph)).setCell ⟨w.heap.size + 1, 6, none⟩ (.slice ta' (ln k U1) tc')).setCell ⟨w.heap.size + 1, 7, none⟩ (.slice ea' (ln k U2) ec') = wf at AF BF hh sF ⊢
        obtain ⟨⟨c0, c1, c2, c3, c4, c5, c6, c7⟩, -⟩ := AF
        refine bodyPost_ret (v := payV ⟨pk, pv, pvk, pva, pvb, ph⟩ (.slice ta' (ln k U1) tc') (.slice ea' (ln k U2) ec')) (by simp [payV, results, Tryz.results29, go_sem, c0, c1, c2, c3, c4, c5, c6, c7]) rfl ?_
        have r1 : ∀ b ∈ b1, w.heap.size + 1 < b ∧ b < wc1.heap.size := HR1.out
        have r2 : ∀ b ∈ b2, wc1.heap.size ≤ b ∧ b < wc2.heap.size := HR2.out
        have q1 := HS1.out
        have q2 := HS2.out
        have q3 := HZ6.out
        have q4 := HZ7.out
        refine ⟨_, _, b1, b2, by rw [HF.out], BF, ?_, ?_, ?_, ?_⟩
        · rw [HU1.out]; exact Own.frame (fun b hb => hh b (by have := r1 b hb; omega)) HQ1.out
        · rw [HU2.out]; exact Own.frame (fun b hb => hh b (by have := r2 b hb; omega)) HQ2.out
        · intro b hb
          rcases List.mem_append.1 hb with hb | hb
          · have := r1 b hb; omega
          · have := r2 b hb; omega
        · refine List.nodup_append.2 ⟨HN1.out, HN2.out, ?_⟩
          intro a ha b hb
          have := r1 a ha
          have := r2 b hb
          omega
    · obtain ⟨⟨⟨x0, x1, x2, x3, x4, x5, x6, x7⟩, y0, y1, y2, y3, y4, y5, y6, y7⟩, -⟩ := XH.out
      go_simp
      clear x0 x1 x2 x3 x4 x5 x6 x7 y0 y1 y2 y3 y4 y5 y6 y7
      refine hK.out _ _ (hHeld) (fun hHeld => ?_)
      clear hK K
      refine wpAnyH_ready (rs := [1]) (by kernel_rfl) (by simp) ?_
      refine AllReadyH.cons rfl (fun K hK => ?_) AllReadyH.nil
      obtain ⟨⟨⟨x0, x1, x2, x3, x4, x5, x6, x7⟩, y0, y1, y2, y3, y4, y5, y6, y7⟩, -⟩ := XH.out
      go_simp
      clear x0 x1 x2 x3 x4 x5 x6 x7 y0 y1 y2 y3 y4 y5 y6 y7
      refine hK.out _ _ (hHeld) (fun hHeld => ?_)
      clear hK K
      refine wpAnyH_ready (rs := [3]) (by kernel_rfl) (by simp) ?_
      refine AllReadyH.cons rfl (fun K hK => ?_) AllReadyH.nil
      go_simp
      refine Calls.mono (C1.out _ hHeld) ?_
      rintro e' wc1 ⟨v', b1, rfl, hb1, o1, r1, n1⟩
      rw [HU1.out] at o1
      obtain ⟨ta', tc', rfl⟩ := o1.slice
      have XN : Hid (X8 wc1 w.heap.size (.int .i64 pk) (.int .i64 pv) (.int .i64 pvk) (.int .i64 pva) (.int .i64 pvb) (.int .i64 ph) (.slice ta lt tc) (.slice ea le ec)) := XH.out.below hb1
      clear XH
      have XH : Hid (X8 wc1 w.heap.size (.int .i64 pk) (.int .i64 pv) (.int .i64 pvk) (.int .i64 pva) (.int .i64 pvb) (.int .i64 ph) (.slice ta lt tc) (.slice ea le ec)) := XN.out
      clear XN
      have HR1 : Hid (∀ b ∈ b1, w.heap.size + 1 < b ∧ b < wc1.heap.size) := (show ∀ b ∈ b1, _ from fun b hb => by have := r1 b hb; have := HS.out; omega)
      have HO1 : Hid (Own wc1 k (.slice ta' (ln k U1) tc') U1 b1) := o1
      have HN1 : Hid _ := n1
      have HS1 : Hid (w.heap.size + 1 < wc1.heap.size) := (show w.heap.size + 1 < wc1.heap.size by have := hb1.size; have := HS.out; omega)
      have hh1 := Below.then hHeld hb1 hHeld.size
      clear o1 r1 n1 hb1 HS
      refine hK.out _ _ (hh1) (fun hHeld => ?_)
      clear hK K
      refine' wpAnyH_take (i := 8) (v := _) rfl (by kernel_rfl) (by kernel_rfl) (by kernel_rfl) (fun _ _ _ h => h) (Or.inl ⟨by rfl, ?hy219⟩) hHeld ?hn219
      case hy219 => (intro wz hSw; go_simp; first | done | with_reducible rfl)
      try simp only [nrm, Act.put]
      refine wpAnyH_ready (rs := [7]) (by kernel_rfl) (by simp) ?_
      refine AllReadyH.cons rfl (fun K hK => ?_) AllReadyH.nil
      go_simp
      refine Calls.mono (C2.out _ hHeld) ?_
      rintro e' wc2 ⟨v', b2, rfl, hb2, o2, r2, n2⟩
      rw [HU2.out] at o2
      obtain ⟨ea', ec', rfl⟩ := o2.slice
      have XN : Hid (X8 wc2 w.heap.size (.int .i64 pk) (.int .i64 pv) (.int .i64 pvk) (.int .i64 pva) (.int .i64 pvb) (.int .i64 ph) (.slice ta lt tc) (.slice ea le ec)) := XH.out.below hb2
      clear XH
      have XH : Hid (X8 wc2 w.heap.size (.int .i64 pk) (.int .i64 pv) (.int .i64 pvk) (.int .i64 pva) (.int .i64 pvb) (.int .i64 ph) (.slice ta lt tc) (.slice ea le ec)) := XN.out
      clear XN
      have HR2 : Hid (∀ b ∈ b2, wc1.heap.size ≤ b ∧ b < wc2.heap.size) := r2
      have HO2 : Hid (Own wc2 k (.slice ea' (ln k U2) ec') U2 b2) := o2
      have HO1' : Hid (Own wc2 k (.slice ta' (ln k U1) tc') U1 b1) := Own.below HO1.out hb2 (fun b hb => (HR1.out b hb).2)
      have HN2 : Hid _ := n2
      have HS2 : Hid (wc1.heap.size ≤ wc2.heap.size) := hb2.size
      have hh2 := Below.then hHeld hb2 hHeld.size
      clear o2 r2 n2 hb2 HO1
      refine hK.out _ _ (hh2) (fun hHeld => ?_)
      clear hK K
      refine wpAnyH_ready (rs := [9]) (by kernel_rfl) (by simp) ?_
      refine AllReadyH.cons rfl (fun K hK => ?_) AllReadyH.nil
      obtain ⟨⟨⟨x0, x1, x2, x3, x4, x5, x6, x7⟩, y0, y1, y2, y3, y4, y5, y6, y7⟩, -⟩ := XH.out
      go_simp
      clear x0 x1 x2 x3 x4 x5 x6 x7 y0 y1 y2 y3 y4 y5 y6 y7
      have XN : X8 (wc2.setCell ⟨w.heap.size, 6, none⟩ (.slice ta' (ln k U1) tc')) w.heap.size (.int .i64 pk) (.int .i64 pv) (.int .i64 pvk) (.int .i64 pva) (.int .i64 pvb) (.int .i64 ph) (.slice ta' (ln k U1) tc') (.slice ea le ec) := X8.of XH.out (XH.out.1.set6 _) (far1 _ _ _ _)
      have p1 : Own (wc2.setCell ⟨w.heap.size, 6, none⟩ (.slice ta' (ln k U1) tc')) k (.slice ta' (ln k U1) tc') U1 b1 := Own.set HO1'.out (a := ⟨w.heap.size, 6, none⟩) (fun b hb => by have := HR1.out b hb; show b ≠ w.heap.size; omega) _
      have p2 : Own (wc2.setCell ⟨w.heap.size, 6, none⟩ (.slice ta' (ln k U1) tc')) k (.slice ea' (ln k U2) ec') U2 b2 := Own.set HO2.out (a := ⟨w.heap.size, 6, none⟩) (fun b hb => by have := HR2.out b hb; have := HS1.out; show b ≠ w.heap.size; omega) _
      have hh3 : Below w.heap.size w (wc2.setCell ⟨w.heap.size, 6, none⟩ (.slice ta' (ln k U1) tc')) := Below.setCell (p := ⟨w.heap.size, 6, none⟩) hHeld (Nat.le_refl _) _
      have sz3 : (wc2.setCell ⟨w.heap.size, 6, none⟩ (.slice ta' (ln k U1) tc')).heap.size = wc2.heap.size := by simp [World.setCell]
      clear XH HO1' HO2
      generalize wc2.setCell ⟨w.heap.size, 6, none⟩ (.slice ta' (ln k U1) tc') = ws6 at XN p1 p2 hh3 sz3 ⊢
      have XH : Hid (X8 ws6 w.heap.size (.int .i64 pk) (.int .i64 pv) (.int .i64 pvk) (.int .i64 pva) (.int .i64 pvb) (.int .i64 ph) (.slice ta' (ln k U1) tc') (.slice ea le ec)) := XN
      have HP1 : Hid (Own ws6 k (.slice ta' (ln k U1) tc') U1 b1) := p1
      have HP2 : Hid (Own ws6 k (.slice ea' (ln k U2) ec') U2 b2) := p2
      have HZ6 : Hid (ws6.heap.size = wc2.heap.size) := sz3
      clear XN p1 p2 sz3
      refine hK.out _ _ (hh3) (fun hHeld => ?_)
      clear hK K
      refine' wpAnyH_take (i := 10) (v := _) rfl (by kernel_rfl) (by kernel_rfl) (by kernel_rfl) (fun _ _ _ h => h) (Or.inl ⟨by rfl, ?hy220⟩) hHeld ?hn220
      case hy220 => (intro wz hSw; go_simp; first | done | with_reducible rfl)
      try simp only [nrm, Act.put]
      refine wpAnyH_ready (rs := [11]) (by kernel_rfl) (by simp) ?_
      refine AllReadyH.cons rfl (fun K hK => ?_) AllReadyH.nil
      obtain ⟨⟨⟨x0, x1, x2, x3, x4, x5, x6, x7⟩, y0, y1, y2, y3, y4, y5, y6, y7⟩, -⟩ := XH.out
      go_simp
      clear x0 x1 x2 x3 x4 x5 x6 x7 y0 y1 y2 y3 y4 y5 y6 y7
      have XN : X8 (ws6.setCell ⟨w.heap.size, 7, none⟩ (.slice ea' (ln k U2) ec')) w.heap.size (.int .i64 pk) (.int .i64 pv) (.int .i64 pvk) (.int .i64 pva) (.int .i64 pvb) (.int .i64 ph) (.slice ta' (ln k U1) tc') (.slice ea' (ln k U2) ec') := X8.of XH.out (XH.out.1.set7 _) (far1 _ _ _ _)
      have p1 : Own (ws6.setCell ⟨w.heap.size, 7, none⟩ (.slice ea' (ln k U2) ec')) k (.slice ta' (ln k U1) tc') U1 b1 := Own.set HP1.out (a := ⟨w.heap.size, 7, none⟩) (fun b hb => by have := HR1.out b hb; show b ≠ w.heap.size; omega) _
      have p2 : Own (ws6.setCell ⟨w.heap.size, 7, none⟩ (.slice ea' (ln k U2) ec')) k (.slice ea' (ln k U2) ec') U2 b2 := Own.set HP2.out (a := ⟨w.heap.size, 7, none⟩) (fun b hb => by have := HR2.out b hb; have := HS1.out; show b ≠ w.heap.size; omega) _
      have hh3 : Below w.heap.size w (ws6.setCell ⟨w.heap.size, 7, none⟩ (.slice ea' (ln k U2) ec')) := Below.setCell (p := ⟨w.heap.size, 7, none⟩) hHeld (Nat.le_refl _) _
      have sz3 : (ws6.setCell ⟨w.heap.size, 7, none⟩ (.slice ea' (ln k U2) ec')).heap.size = ws6.heap.size := by simp [World.setCell]
      clear XH HP1 HP2
      generalize ws6.setCell ⟨w.heap.size, 7, none⟩ (.slice ea' (ln k U2) ec') = ws7 at XN p1 p2 hh3 sz3 ⊢
      have XH : Hid (X8 ws7 w.heap.size (.int .i64 pk) (.int .i64 pv) (.int .i64 pvk) (.int .i64 pva) (.int .i64 pvb) (.int .i64 ph) (.slice ta' (ln k U1) tc') (.slice ea' (ln k U2) ec')) := XN
      have HQ1 : Hid (Own ws7 k (.slice ta' (ln k U1) tc') U1 b1) := p1
      have HQ2 : Hid (Own ws7 k (.slice ea' (ln k U2) ec') U2 b2) := p2
      have HZ7 : Hid (ws7.heap.size = ws6.heap.size) := sz3
      clear XN p1 p2 sz3
      refine hK.out _ _ (hh3) (fun hHeld => ?_)
      clear hK K
      refine wpAnyH_done (by kernel_rfl) ?_ _
      obtain ⟨X1, z0, z1, z2, z3, z4, z5, z6, z7, Y1⟩ := XH.out
      have HY : Hid (C8 ws7 (w.heap.size + 1) z0 z1 z2 z3 z4 z5 z6 z7) := Y1
      obtain ⟨⟨x0, x1, x2, x3, x4, x5, x6, x7⟩, -⟩ := X1
      obtain ⟨⟨y0, y1, y2, y3, y4, y5, y6, y7⟩, v0, v1, v2, v3, v4, v5, v6, v7⟩ := Y1
      have HB : Hid (Below w.heap.size w ws7) := hHeld
      clear hHeld
      go_wp2
      have AF := st8_c8 HY.out (.int .i64 pk) (.int .i64 pv) (.int .i64 pvk) (.int .i64 pva) (.int .i64 pvb) (.int .i64 ph) (.slice ta' (ln k U1) tc') (.slice ea' (ln k U2) ec')
      have BF := st8_below HB.out (show w.heap.size ≤ w.heap.size + 1 by omega) (.int .i64 pk) (.int .i64 pv) (.int .i64 pvk) (.int .i64 pva) (.int .i64 pvb) (.int .i64 ph) (.slice ta' (ln k U1) tc') (.slice ea' (ln k U2) ec')
      have hh : ∀ b, b ≠ w.heap.size + 1 → _ := fun b hb => st8_heap ws7 (w.heap.size + 1) b hb (.int .i64 pk) (.int .i64 pv) (.int .i64 pvk) (.int .i64 pva) (.int .i64 pvb) (.int .i64 ph) (.slice ta' (ln k U1) tc') (.slice ea' (ln k U2) ec')
      have sF := st8_size ws7 (w.heap.size + 1) (.int .i64 pk) (.int .i64 pv) (.int .i64 pvk) (.int .i64 pva) (.int .i64 pvb) (.int .i64 ph) (.slice ta' (ln k U1) tc') (.slice ea' (ln k U2) ec')
      generalize ((((((((ws7).setCell ⟨w.heap.size + 1, 0, none⟩ (.int .i64 pk)).setCell ⟨w.heap.size + 1, 1, none⟩ (.int .i64 pv)).setCell ⟨w.heap.size + 1, 2, none⟩ (.int .i64 pvk)).setCell ⟨w.heap.size + 1, 3, none⟩ (.int .i64 pva)).setCell ⟨w.heap.size + 1, 4, none⟩ (.int .i64 pvb)).setCell ⟨w.heap.size + 1, 5, none⟩ (.int .i64 ph)).setCell ⟨w.heap.size + 1, 6, none⟩ (.slice ta' (ln k U1) tc')).setCell ⟨w.heap.size + 1, 7, none⟩ (.slice ea' (ln k U2) ec') = wf at AF BF hh sF ⊢
      obtain ⟨⟨c0, c1, c2, c3, c4, c5, c6, c7⟩, -⟩ := AF
      refine bodyPost_ret (v := payV ⟨pk, pv, pvk, pva, pvb, ph⟩ (.slice ta' (ln k U1) tc') (.slice ea' (ln k U2) ec')) (by simp [payV, results, Tryz.results29, go_sem, c0, c1, c2, c3, c4, c5, c6, c7]) rfl ?_
      have r1 : ∀ b ∈ b1, w.heap.size + 1 < b ∧ b < wc1.heap.size := HR1.out
      have r2 : ∀ b ∈ b2, wc1.heap.size ≤ b ∧ b < wc2.heap.size := HR2.out
      have q1 := HS1.out
      have q2 := HS2.out
      have q3 := HZ6.out
      have q4 := HZ7.out
      refine ⟨_, _, b1, b2, by rw [HF.out], BF, ?_, ?_, ?_, ?_⟩
      · rw [HU1.out]; exact Own.frame (fun b hb => hh b (by have := r1 b hb; omega)) HQ1.out
      · rw [HU2.out]; exact Own.frame (fun b hb => hh b (by have := r2 b hb; omega)) HQ2.out
      · intro b hb
        rcases List.mem_append.1 hb with hb | hb
        · have := r1 b hb; omega
        · have := r2 b hb; omega
      · refine List.nodup_append.2 ⟨HN1.out, HN2.out, ?_⟩
        intro a ha b hb
        have := r1 a ha
        have := r2 b hb
        omega

set_option maxHeartbeats 8000000 in
set_option maxRecDepth 20000 in
theorem hostsTurned_each (zs : List Int) {n : Nat} (ra : Option Addr) (rc : Nat) (hz : zs.length = 3) (hpos : 0 < zs.length) : ∀ (d : Nat) (T : Tr d) (s : Value) (w : World), Rep w d s T → cnt d T ≤ 1048576 → GRep (Value.int .i64) w (.slice ra zs.length rc) zs → allP (okP n) d T → Tf 28 29 (hostF zs) (.slice ra zs.length rc) d T w s := by
  intro d
  obtain ⟨i0, hi0, hz0, hz1, hz2⟩ := info_parts infoStep
  have HZ : Hid (zs.length = 3) := hz
  clear hz
  induction d with
  | zero =>
    intro T s w h hc hN hP
    obtain ⟨a, c, rfl⟩ := h
    unfold Tf
    go_enter Tryz.func28, Tryz.ntmps28
    go_wp2
    go_ret
    exact ⟨_, [], rfl, Below.refl _ _, ⟨⟨_, _, rfl⟩, rfl⟩, by simp, by simp⟩
  | succ d ih =>
    intro (l : List (Pay × Tr d × Tr d)) s w h hcn hN hP
    obtain ⟨a, c, rfl, hlc, hcm, hcell⟩ := h
    have hll := ln_le_cnt (d + 1) (l : List (Pay × Tr d × Tr d))
    have hll' : l.length ≤ cnt (d + 1) (l : List (Pay × Tr d × Tr d)) := hll
    have hlen : l.length ≤ 1048576 := by omega
    by_cases hzero : l.length = 0
    · unfold Tf
      rw [hzero, mapT_succ]
      go_enter Tryz.func28, Tryz.ntmps28
      go_wp2
      go_ret
      exact ⟨_, [], rfl, Below.refl _ _, .inl ⟨by rw [mapL_len]; exact hzero, ⟨_, _, rfl, by unfold maxLen; omega⟩, rfl⟩, by simp, by simp⟩
    have hz0' : ((l.length : Int) == 0) = false := beq_eq_false_iff_ne.2 (by omega)
    have hne0 : ¬ (l.length : Int) = 0 := by omega
    unfold Tf
    rw [mapT_succ]
    have HC : Hid (∀ i (hi : i < l.length), ∃ (p : Pay) (T1 T2 : Tr d) (b off : Nat) (ta : Option Addr) (tc : Nat) (ea : Option Addr) (ec : Nat), l[i] = (p, T1, T2) ∧ a = some ⟨b, off, none⟩ ∧ StepAt w b (off + i * 8) p (.slice ta (ln d T1) tc) (.slice ea (ln d T2) ec) ∧ Rep w d (.slice ta (ln d T1) tc) T1 ∧ Rep w d (.slice ea (ln d T2) ec) T2 ∧ okP n p ∧ allP (okP n) d T1 ∧ allP (okP n) d T2) := (show ∀ i (hi : i < l.length), _ by
      intro i hi
      obtain ⟨b, off, t, e, ha, hS, r1, r2⟩ := hcell i hi
      obtain ⟨ta, tc, rfl⟩ := r1.slice
      obtain ⟨ea, ec, rfl⟩ := r2.slice
      obtain ⟨p0, p1, p2⟩ := hP _ (List.getElem_mem hi)
      exact ⟨_, _, _, b, off, ta, tc, ea, ec, rfl, ha, hS, r1, r2, p0, p1, p2⟩)
    have IH : Hid _ := ih
    have HN : Hid (GRep (Value.int .i64) w (.slice ra zs.length rc) zs) := hN
    clear ih hcell hll hP
    obtain ⟨rn, hrn⟩ : ∃ rn, zs.length = rn := ⟨_, rfl⟩
    have HRN : Hid _ := hrn
    clear hrn
    go_enter Tryz.func28, Tryz.ntmps28
    go_wp2_with (at_make; refine wpList_make_full _ rfl _ _ 24 rfl w.heap.size 66 i0 _ 8 Tryz.underlying24 hi0 hz0 hz1 _ _ _ _ l.length rfl rfl rfl rfl ?b2 ?b3 ?b4 ?_)
    case b2 => rw [hz2]; omega
    case b3 => unfold maxLen; omega
    case b4 => exact Nat.le_refl _
    intro w0 own0 grow0
    have t0 := row_there own0
    have B0 : Below w.heap.size w w0 := (Below.refl _ _).grown grow0 (Nat.le_refl _) (fun k hk => by cases hk)
    have s0 : w.heap.size < w0.heap.size := (own0.lt w.heap.size rfl).2
    clear own0 grow0
    go_wp2_with fail
    go_loopw [18] (fun j wr => ∃ (i : Nat) (parts : List (List Nat)), i ≤ l.length ∧ j = .int .i64 i ∧ Below w.heap.size w wr ∧ w.heap.size < wr.heap.size ∧ wr.there w.heap.size 0 (l.length * 8) ∧ parts.length = i ∧ (∀ b ∈ parts.flatten, w.heap.size < b ∧ b < wr.heap.size) ∧ parts.flatten.Nodup ∧
        ∀ q (hq : q < l.length), q < i → ∃ t e b1 b2, parts[q]? = some (b1 ++ b2) ∧ wr.rangeAt w.heap.size (q * 8) (cells8 (hostF zs l[q].1) t e) ∧ Own wr d t (mapT (hostF zs) d l[q].2.1) b1 ∧ Own wr d e (mapT (hostF zs) d l[q].2.2) b2) (fun j _ => l.length - (intOf j).toNat)
    case atStart => exact ⟨0, [], by omega, rfl, B0, s0, t0, rfl, by simp, by simp, fun q _ h => by omega⟩
    case round =>
      obtain ⟨i, parts, hi, rfl, hbr, hgs, hth, hpl, hrg, hnd, hown⟩ := hrel
      have hsz : w.heap.size ≤ wr.heap.size := hbr.size
      by_cases hlt : i < l.length
      · obtain ⟨p, T1, T2, b, off, ta, tc, ea, ec, hx, rfl, hS, r1, r2, p0, p1, p2⟩ := HC.out i hlt
        obtain ⟨k0, k1, k2, k3, k4, k5, k6, k7⟩ := hS.on (w' := wr) (fun a v h => cell_later hbr h)
        have i0' : (0 : Int) ≤ (i : Int) := by omega
        have i1' : (i : Int) < (l.length : Int) := by omega
        have q1 := cnt_take l i hlt
        rw [hx] at q1
        dsimp only at q1
        have q2 := cnt_take_le l (i + 1)
        have AB : Below wr.heap.size wr (wr.alloc (.cells #[.int .i64 p.k, .int .i64 p.v, .int .i64 p.vk, .int .i64 p.va, .int .i64 p.vb, .int .i64 p.h, .slice ta (ln d T1) tc, .slice ea (ln d T2) ec] 66)) := (Below.refl _ _).alloc (Nat.le_refl _) _
        have c1 : Hid (Calls Tryz.prog 29 #[.agg #[.int .i64 p.k, .int .i64 p.v, .int .i64 p.vk, .int .i64 p.va, .int .i64 p.vb, .int .i64 p.h, .slice ta (ln d T1) tc, .slice ea (ln d T2) ec], .slice ra zs.length rc] (wr.alloc (.cells #[.int .i64 p.k, .int .i64 p.v, .int .i64 p.vk, .int .i64 p.va, .int .i64 p.vb, .int .i64 p.h, .slice ta (ln d T1) tc, .slice ea (ln d T2) ec] 66))
            fun e w' => ∃ t' e' b1 b2, e = .returned (payV (hostF zs p) t' e') ∧ Below wr.heap.size wr w' ∧ Own w' d t' (mapT (hostF zs) d T1) b1 ∧ Own w' d e' (mapT (hostF zs) d T2) b2 ∧ (∀ b ∈ b1 ++ b2, wr.heap.size ≤ b ∧ b < w'.heap.size) ∧ (b1 ++ b2).Nodup) :=
          Calls.mono (hostsTurned_of zs (n := n) d T1 T2 p ta ea (ln d T1) tc (ln d T2) ec ra rc (wr.alloc (.cells #[.int .i64 p.k, .int .i64 p.v, .int .i64 p.vk, .int .i64 p.va, .int .i64 p.vb, .int .i64 p.h, .slice ta (ln d T1) tc, .slice ea (ln d T2) ec] 66)) HZ.out hpos p0 (GRep.below AB (GRep.below hbr HN.out)) (fun wx hwx => IH.out T1 _ wx ((r1.below hbr).below (Below.then AB hwx (by simp))) (by omega) (GRep.below (Below.then AB hwx (by simp)) (GRep.below hbr HN.out)) p1) (fun wx hwx => IH.out T2 _ wx ((r2.below hbr).below (Below.then AB hwx (by simp))) (by omega) (GRep.below (Below.then AB hwx (by simp)) (GRep.below hbr HN.out)) p2)) (by
            rintro e w' ⟨t', e', b1, b2, he, hb, o1, o2, rg, nd⟩
            exact ⟨t', e', b1, b2, he, Below.then AB hb (by simp), o1, o2, fun b hb => by have := rg b hb; simp at this; omega, nd⟩)
        obtain ⟨U1, hU1⟩ : ∃ U, mapT (hostF zs) d T1 = U := ⟨_, rfl⟩
        obtain ⟨U2, hU2⟩ : ∃ U, mapT (hostF zs) d T2 = U := ⟨_, rfl⟩
        obtain ⟨fp, hfp⟩ : ∃ fp, hostF zs p = fp := ⟨_, rfl⟩
        rw [hU1, hU2, hfp] at c1
        have HU1 : Hid _ := hU1
        have HU2 : Hid _ := hU2
        have HFP : Hid _ := hfp
        have HTH : Hid _ := hth
        have HRG : Hid _ := hrg
        have HOW : Hid _ := hown
        have HBR : Hid (Below w.heap.size w wr) := hbr
        clear hS r1 r2 q1 q2 hth hrg hown hbr AB p0 p1 p2 hU1 hU2 hfp
        go_wp2_with fail
        (try go_at_call 29); refine Calls.mono c1.out ?_
        rintro e w1 ⟨t', e', b1, b2, rfl, hb1, o1, o2, rg, nd⟩
        obtain ⟨ta', tc', rfl⟩ := o1.slice
        obtain ⟨ea', ec', rfl⟩ := o2.slice
        unfold payV
        clear k0 k1 k2 k3 k4 k5 k6 k7 c1
        have th1 : w1.there w.heap.size 0 (l.length * 8) := there_same (hb1.block _ hgs) HTH.out
        have HT1 : Hid (w1.there w.heap.size (i * 8) 8) := (show w1.there w.heap.size (i * 8) 8 from fun j hj => by
          have := th1 (i * 8 + j) (by omega)
          rwa [Nat.zero_add] at this)
        have H1 : Hid _ := th1
        have HB1 : Hid (Below wr.heap.size wr w1) := hb1
        have HO1 : Hid _ := o1
        have HO2 : Hid _ := o2
        clear th1 hb1 o1 o2
        go_wp2_with (refine wpList_store_mid rfl _ _ _ rfl w.heap.size (i * 8) _ rfl rfl ?ht ?hi ?h1 ?_)
        case ht => exact HT1.out
        case hi => rw [hi0]; simp [hz1]
        case h1 => exact all_oneCell_toArray (cells8_one fp ta' ea' _ _ _ _)
        have hb1 : Below wr.heap.size wr w1 := HB1.out
        have s1 : wr.heap.size ≤ w1.heap.size := hb1.size
        have hrg : ∀ b ∈ parts.flatten, w.heap.size < b ∧ b < wr.heap.size := HRG.out
        have hhp : ∀ b, w.heap.size < b → b < wr.heap.size → (w1.setCells w.heap.size (i * 8) (cells8 fp (.slice ta' (ln d U1) tc') (.slice ea' (ln d U2) ec'))).heap[b]? = wr.heap[b]? := fun b h1 h2 => (heap_setCells _ _ _ _ (by omega)).trans (hb1.block b h2)
        have hhp2 : ∀ b, w.heap.size < b → (w1.setCells w.heap.size (i * 8) (cells8 fp (.slice ta' (ln d U1) tc') (.slice ea' (ln d U2) ec'))).heap[b]? = w1.heap[b]? := fun b h1 => heap_setCells _ _ _ _ (by omega)
        refine ⟨⟨i + 1, parts ++ [b1 ++ b2], by omega, by simp, below_setCells (Nat.le_refl _) _ _ _ (Below.then HBR.out hb1 hsz), by rw [size_setCells]; omega, World.there_setCells H1.out _ _ _, by simp [hpl], ?_, ?_, ?_⟩, by simp [intOf]; omega⟩
        · intro b hb
          rw [size_setCells]
          rw [List.flatten_append] at hb
          rcases List.mem_append.1 hb with hb | hb
          · have := hrg b hb; omega
          · have := rg b (by simpa using hb); omega
        · rw [List.flatten_append]
          refine List.nodup_append.2 ⟨hnd, by simpa using nd, ?_⟩
          intro a ha b hb
          have := hrg a ha
          have := rg b (by simpa using hb)
          omega
        · intro q hq hqi
          by_cases hqe : q = i
          · subst hqe
            refine ⟨.slice ta' (ln d U1) tc', .slice ea' (ln d U2) ec', b1, b2, by rw [List.getElem?_append_right (by omega), hpl]; simp, ?_, ?_, ?_⟩
            · rw [hx]; dsimp only; rw [HFP.out]; exact World.rangeAt_setCells_same w1 w.heap.size (q * 8) (cells8 fp (.slice ta' (ln d U1) tc') (.slice ea' (ln d U2) ec')) HT1.out
            · rw [hx]; dsimp only; rw [HU1.out]; exact Own.frame (fun b hb => hhp2 b (by have := rg b (List.mem_append_left _ hb); omega)) HO1.out
            · rw [hx]; dsimp only; rw [HU2.out]; exact Own.frame (fun b hb => hhp2 b (by have := rg b (List.mem_append_right _ hb); omega)) HO2.out
          · obtain ⟨t, e, c1, c2, hp1, hra, oo1, oo2⟩ := HOW.out q hq (by omega)
            have hm : ∀ b ∈ c1 ++ c2, b ∈ parts.flatten := fun b hbm => List.mem_flatten.2 ⟨_, List.mem_of_getElem? hp1, hbm⟩
            refine ⟨t, e, c1, c2, by rw [List.getElem?_append_left (by omega)]; exact hp1, World.rangeAt_setCells_apart (range_same (hb1.block _ hgs) hra) _ _ _ (.inr (.inl (by simp [cells8]; omega))), ?_, ?_⟩
            · exact Own.frame (fun b hb => by have := hrg b (hm b (List.mem_append_left _ hb)); exact hhp b this.1 this.2) oo1
            · exact Own.frame (fun b hb => by have := hrg b (hm b (List.mem_append_right _ hb)); exact hhp b this.1 this.2) oo2
      · have hie : i = l.length := by omega
        subst hie
        have HTH : Hid _ := hth
        have HRG : Hid _ := hrg
        have HOW : Hid _ := hown
        have HBR : Hid (Below w.heap.size w wr) := hbr
        clear hth hrg hown hbr
        go_wp2
        go_ret
        refine ⟨_, w.heap.size :: parts.flatten, rfl, HBR.out, .inr ⟨by rw [mapL_len]; omega, w.heap.size, l.length, parts, by rw [mapL_len]; rfl, by rw [mapL_len]; exact Nat.le_refl _, by unfold maxLen; omega, by rw [mapL_len]; exact HTH.out, by rw [mapL_len]; exact hpl, rfl, fun q hq => ?_⟩, ?_, ?_⟩
        · have hq' : q < l.length := by rwa [mapL_len] at hq
          rw [mapL_get]
          exact HOW.out q hq' hq'
        · intro b hb
          rcases List.mem_cons.1 hb with rfl | hb
          · exact ⟨Nat.le_refl _, hgs⟩
          · have := HRG.out b hb; omega
        · refine List.nodup_cons.2 ⟨fun hm => ?_, hnd⟩
          have := HRG.out _ hm; omega

end Go.Proofs.YthcgdhlemieboaaGreat
