/- What is fine in a step is fine alone: the law, walked. -/
import Derived.Test.YtpmhkhajahoaaaaDoorTmb
import Derived.Test.YtpmhkhajahoaaaaDoorTks
import Derived.Test.YtpmhkhajahoaaaaDoorDty
import Derived.Test.YtpmhkhajahoaaaaDoorTre
import Derived.Test.YtpmhkhajahoaaaaDoorOwn
namespace Go.Proofs.YtpmhkhajahoaaaaDoor
open Go.RowKit
set_option linter.unusedSimpArgs false
set_option linter.unusedVariables false
attribute [local go_sem] World.cell?_alloc_some
theorem stepAt_ltT {w : World} {b off : Nat} {p : Pay} {t e : Value} (h : StepAt w b off p t e) : b < w.heap.size := World.block_lt_of_cell? w _ h.1

theorem rep_oneIf {w : World} {d : Nat} {sb : Nat} {v : Int} {sv : Value} {T : Tr d} (hS : StepAt w sb 0 ⟨2, v, 0, 0, 0, 0⟩ sv (.slice none 0 0)) (hR : Rep w d sv T) : Rep w (d + 1) (.slice (some ⟨sb, 0, none⟩) 1 1) ([(⟨2, v, 0, 0, 0, 0⟩, T, noT d)] : List (Pay × Tr d × Tr d)) :=
  ⟨_, 1, rfl, Nat.le_refl _, by unfold maxLen; omega, fun i hi => by
    match i, hi with
    | 0, _ => exact ⟨sb, 0, _, _, rfl, by simpa using hS, hR, (RepP.zero (P := fun _ => True) (w := w) (noT d) (ln_noT d)).rep⟩⟩

set_option maxHeartbeats 8000000 in
set_option maxRecDepth 20000 in
theorem fnTypeDeep_walk (a0 : Option Addr) (len0 cap0 : Nat) (z0 : List Int) (a1 : Option Addr) (len1 cap1 : Nat) (z1 : List Int) (w : World) (s0 s1 : Addr) (hg0 : w.cell? ⟨0, 0, none⟩ = some (.iface 152 (.pointer (some s0)))) (hg1 : w.cell? ⟨1, 0, none⟩ = some (.iface 152 (.pointer (some s1)))) (h0 : IsRow .u8 w a0 len0 cap0 z0) (h1 : IsRow .u8 w a1 len1 cap1 z1) :
    Calls Tryd.prog 9 #[.slice a0 len0 cap0, .slice a1 len1 cap1] w fun e w' => e = .returned (.bool true) ∧ Below w.heap.size w w' := by
  by_cases hl0 : (1048576 : Int) < (len0 : Int)
  · go_enter Tryd.func9, Tryd.ntmps9
    go_wp2
    go_ret
    exact ⟨rfl, Below.refl _ _⟩
  by_cases hl1 : (1048576 : Int) < (len1 : Int)
  · go_enter Tryd.func9, Tryd.ntmps9
    go_wp2
    go_ret
    exact ⟨rfl, Below.refl _ _⟩
  have C1 : Hid _ := drawTypeOk_any w a0 len0 cap0 z0 h0
  have HG0 : Hid _ := hg0
  have HG1 : Hid _ := hg1
  clear h0 h1 hg0 hg1
  go_enter Tryd.func9, Tryd.ntmps9
  go_wp2_with fail
  go_at_call 26; refine Calls.mono C1.out ?_
  rintro e w1 ⟨lv, sv, ls, d, l, rfl, hLp, hRp, ll, cn, hb1⟩
  have hL := hLp.rep
  have hR := hRp.rep
  obtain ⟨la, lc, rfl, hll, hlm, -⟩ := id hL
  obtain ⟨sa, sc, hsv, hslc, hscm, -⟩ := id hR
  subst hsv
  have hR : Rep w1 (d + 1) (.slice sa l.length sc) (l : List (Pay × Tr d × Tr d)) := hR
  have hlc8 : l.length ≤ 400 := Nat.le_trans (show l.length ≤ (cnt (d + 1) (l : List (Pay × Tr d × Tr d))) from ln_le_cnt (d + 1) (l : List (Pay × Tr d × Tr d))) cn
  have A : Below w1.heap.size w1 (w1.alloc (.cells #[.slice la ls.length lc, .slice sa l.length sc] 26)) := (Below.refl _ _).alloc (Nat.le_refl _) _
  have G2 := C2.new w1 (.slice la ls.length lc) (.slice sa l.length sc) 26
  have HLR : Hid (∀ wz, Below w1.heap.size w1 wz → LRep wz (.slice la ls.length lc) ls ∧ Rep wz (d + 1) (.slice sa l.length sc) (l : List (Pay × Tr d × Tr d)) ∧ wz.cell? ⟨0, 0, none⟩ = some (.iface 152 (.pointer (some s0))) ∧ wz.cell? ⟨1, 0, none⟩ = some (.iface 152 (.pointer (some s1)))) := (show ∀ wz, _ from fun wz hb => ⟨hL.below hb, hR.below hb, cell_later hb (cell_later hb1 HG0.out), cell_later hb (cell_later hb1 HG1.out)⟩)
  have HB1 : Hid (Below w.heap.size w w1) := hb1
  obtain ⟨ok, hok⟩ : ∃ x, (progB ls (d + 1) (l : List (Pay × Tr d × Tr d)) && !(whyR ls (d + 1) (l : List (Pay × Tr d × Tr d))).2) = x := ⟨_, rfl⟩
  have HOKV : Hid _ := hok
  have HT : Hid (∀ wz, Below w1.heap.size w1 wz → Calls Tryd.prog 27 #[.agg #[.slice la ls.length lc, .slice sa l.length sc]] wz fun e w' => e = .returned (.bool ok) ∧ Below wz.heap.size wz w') := (show ∀ wz, _ from fun wz hb => by
    rw [← hok]; exact typeOk_any (HLR.out wz hb).1 (HLR.out wz hb).2.1 (HLR.out wz hb).2.2.1 (HLR.out wz hb).2.2.2)
  have HS : Hid (∀ wz, Below w1.heap.size w1 wz → Calls Tryd.prog 24 #[.agg #[.slice la ls.length lc, .slice sa l.length sc]] wz fun e w' => e = .returned (.bool ok) ∧ Below wz.heap.size wz w') := (show ∀ wz, _ from fun wz hb => by
    rw [← hok]; exact sTypeOk_any (HLR.out wz hb).1 (HLR.out wz hb).2.1 (Nat.le_trans cn (by decide)))
  obtain ⟨pb, hpb⟩ : ∃ x, progB ls (d + 1) (l : List (Pay × Tr d × Tr d)) = x := ⟨_, rfl⟩
  have HPB : Hid _ := hpb
  have HP : Hid (∀ wz, Below w1.heap.size w1 wz → Calls Tryd.prog 18 #[.agg #[.slice la ls.length lc, .slice sa l.length sc]] wz fun e w' => e = .returned (.bool pb) ∧ Below wz.heap.size wz w') := (show ∀ wz, _ from fun wz hb => by
    rw [← hpb]; exact sProgOk_any (HLR.out wz hb).1 (HLR.out wz hb).2.1 (Nat.le_trans cn (by decide)))
  generalize hw2 : w1.alloc (.cells #[.slice la ls.length lc, .slice sa l.length sc] 26) = w2 at A G2
  have HW2 : Hid _ := hw2
  have B_w2 : Hid (Below w1.heap.size w1 w2) := A
  have G_w2 : Hid (C2 w2 w1.heap.size (.slice la ls.length lc) (.slice sa l.length sc)) := G2
  clear hLp hRp hb1 C1 A G2 hw2 hL hR hok hpb
  go_wp2_with fail
  rw [HW2.out]
  clear HW2
  go_at_call 27; refine Calls.mono (HT.out _ B_w2.out) ?_
  rintro e w3 ⟨rfl, hb_w3⟩
  have B_w3 : Hid (Below w1.heap.size w1 w3) := Below.then B_w2.out hb_w3 B_w2.out.size
  have G_w3 : Hid (C2 w3 w1.heap.size (.slice la ls.length lc) (.slice sa l.length sc)) := G_w2.out.same (hb_w3.block _ (World.block_lt_of_cell? _ _ G_w2.out.1.1))
  clear hb_w3
  try clear p0 p1
  obtain ⟨⟨p0, p1⟩, -⟩ := id G_w3.out
  go_wp2_with fail
  go_at_call 24; refine Calls.mono (HS.out _ B_w3.out) ?_
  rintro e w4 ⟨rfl, hb_w4⟩
  have B_w4 : Hid (Below w1.heap.size w1 w4) := Below.then B_w3.out hb_w4 B_w3.out.size
  have G_w4 : Hid (C2 w4 w1.heap.size (.slice la ls.length lc) (.slice sa l.length sc)) := G_w3.out.same (hb_w4.block _ (World.block_lt_of_cell? _ _ G_w3.out.1.1))
  clear hb_w4
  try clear p0 p1
  obtain ⟨⟨p0, p1⟩, -⟩ := id G_w4.out
  cases ok
  all_goals skip
  · go_wp2_with fail
    go_at_call 18; refine Calls.mono (HP.out _ B_w4.out) ?_
    rintro e w5 ⟨rfl, hb_w5⟩
    have B_w5 : Hid (Below w1.heap.size w1 w5) := Below.then B_w4.out hb_w5 B_w4.out.size
    have G_w5 : Hid (C2 w5 w1.heap.size (.slice la ls.length lc) (.slice sa l.length sc)) := G_w4.out.same (hb_w5.block _ (World.block_lt_of_cell? _ _ G_w4.out.1.1))
    clear hb_w5
    try clear p0 p1
    obtain ⟨⟨p0, p1⟩, -⟩ := id G_w5.out
    cases pb
    · have C6 : Hid _ := HS.out _ B_w5.out
      go_wp2_with fail
      go_at_call 24; refine Calls.mono (C6.out) ?_
      rintro e w6 ⟨rfl, hb_w6⟩
      have B_w6 : Hid (Below w1.heap.size w1 w6) := Below.then B_w5.out hb_w6 B_w5.out.size
      have G_w6 : Hid (C2 w6 w1.heap.size (.slice la ls.length lc) (.slice sa l.length sc)) := G_w5.out.same (hb_w6.block _ (World.block_lt_of_cell? _ _ G_w5.out.1.1))
      clear hb_w6
      try clear p0 p1
      obtain ⟨⟨p0, p1⟩, -⟩ := id G_w6.out
      go_wp2
      go_ret
      exact ⟨rfl, HB1.out.trans (B_w6.out.mono HB1.out.size)⟩
    · have hn0 : ¬ ((ls.length : Int) = 0) := by omega
      obtain ⟨q, hq⟩ : ∃ q, len1 % ls.length = q := ⟨_, rfl⟩
      have hq1 : q < ls.length := by rw [← hq]; exact Nat.mod_lt _ (by omega)
      have HM : Hid ((len1 : Int).tmod (ls.length : Int) = (q : Int)) := (show (len1 : Int).tmod (ls.length : Int) = (q : Int) by rw [Int.tmod_eq_emod_of_nonneg (by omega), ← hq]; rfl)
      clear hq
      go_wp2_with fail
      refine wp_region_held (S := (fun wz => Below w5.heap.size w5 wz)) (by kernel_rfl) ?_
      change wpAnyH _ _ _ _ _ _ _ _ (World.drew _)
      have hHeld : (fun wz => Below w5.heap.size w5 wz) (World.drew w5) := (Below.refl _ _).drew
      obtain ⟨yd, hyd⟩ : ∃ y, y = World.drew w5 := ⟨_, rfl⟩
      rw [← hyd] at hHeld ⊢
      clear hyd
      refine' wpAnyH_take (i := 0) (v := _) rfl (by kernel_rfl) (by kernel_rfl) (by kernel_rfl) (fun _ _ _ h => h) (Or.inl ⟨by rfl, ?hy60001⟩) hHeld ?hn60001
      case hy60001 => (intro wz hSw; go_simp; first | done | with_reducible rfl)
      try simp only [List.getElem_toArray, List.getElem_cons_zero, List.getElem_cons_succ, Act.put, List.setIfInBounds_toArray, List.set_cons_zero, List.set_cons_succ]
      refine' wpAnyH_take (i := 1) (v := (.slice la ls.length lc)) rfl (by kernel_rfl) (by kernel_rfl) (by kernel_rfl) (fun _ _ _ h => h) (Or.inl ⟨by rfl, ?hy60002⟩) hHeld ?hn60002
      case hy60002 => (intro wz hSw; have j0 := cell_later hSw p0; have j1 := cell_later hSw p1; go_simp)
      try simp only [List.getElem_toArray, List.getElem_cons_zero, List.getElem_cons_succ, Act.put, List.setIfInBounds_toArray, List.set_cons_zero, List.set_cons_succ]
      refine' wpAnyH_take (i := 2) (v := _) rfl (by kernel_rfl) (by kernel_rfl) (by kernel_rfl) (fun _ _ _ h => h) (Or.inl ⟨by rfl, ?hy60003⟩) hHeld ?hn60003
      case hy60003 => (intro wz hSw; go_simp; first | done | with_reducible rfl)
      try simp only [List.getElem_toArray, List.getElem_cons_zero, List.getElem_cons_succ, Act.put, List.setIfInBounds_toArray, List.set_cons_zero, List.set_cons_succ]
      refine' wpAnyH_take (i := 3) (v := _) rfl (by kernel_rfl) (by kernel_rfl) (by kernel_rfl) (fun _ _ _ h => h) (Or.inl ⟨by rfl, ?hy60004⟩) hHeld ?hn60004
      case hy60004 => (intro wz hSw; go_simp; first | done | with_reducible rfl)
      try simp only [List.getElem_toArray, List.getElem_cons_zero, List.getElem_cons_succ, Act.put, List.setIfInBounds_toArray, List.set_cons_zero, List.set_cons_succ]
      refine' wpAnyH_take (i := 4) (v := _) rfl (by kernel_rfl) (by kernel_rfl) (by kernel_rfl) (fun _ _ _ h => h) (Or.inl ⟨by rfl, ?hy60005⟩) hHeld ?hn60005
      case hy60005 => (intro wz hSw; go_simp; first | done | with_reducible rfl)
      try simp only [List.getElem_toArray, List.getElem_cons_zero, List.getElem_cons_succ, Act.put, List.setIfInBounds_toArray, List.set_cons_zero, List.set_cons_succ]
      refine' wpAnyH_take (i := 5) (v := (.slice la ls.length lc)) rfl (by kernel_rfl) (by kernel_rfl) (by kernel_rfl) (fun _ _ _ h => h) (Or.inl ⟨by rfl, ?hy60006⟩) hHeld ?hn60006
      case hy60006 => (intro wz hSw; have j0 := cell_later hSw p0; have j1 := cell_later hSw p1; go_simp)
      try simp only [List.getElem_toArray, List.getElem_cons_zero, List.getElem_cons_succ, Act.put, List.setIfInBounds_toArray, List.set_cons_zero, List.set_cons_succ]
      refine' wpAnyH_take (i := 6) (v := _) rfl (by kernel_rfl) (by kernel_rfl) (by kernel_rfl) (fun _ _ _ h => h) (Or.inl ⟨by rfl, ?hy60007⟩) hHeld ?hn60007
      case hy60007 => (intro wz hSw; go_simp; first | done | with_reducible rfl)
      try simp only [List.getElem_toArray, List.getElem_cons_zero, List.getElem_cons_succ, Act.put, List.setIfInBounds_toArray, List.set_cons_zero, List.set_cons_succ]
      refine' wpAnyH_take (i := 7) (v := (.int .i64 (q : Int))) rfl (by kernel_rfl) (by kernel_rfl) (by kernel_rfl) (fun _ _ _ h => h) (Or.inl ⟨by rfl, ?hy60008⟩) hHeld ?hn60008
      case hy60008 => (intro wz hSw; have hm := HM.out; go_simp; first | done | (intro h; rw [h] at ll; simp at ll) | simp [hm] | omega)
      try simp only [List.getElem_toArray, List.getElem_cons_zero, List.getElem_cons_succ, Act.put, List.setIfInBounds_toArray, List.set_cons_zero, List.set_cons_succ]
      refine' wpAnyH_take (i := 8) (v := _) rfl (by kernel_rfl) (by kernel_rfl) (by kernel_rfl) (fun _ _ _ h => h) (Or.inl ⟨by rfl, ?hy60009⟩) hHeld ?hn60009
      case hy60009 => (intro wz hSw; go_simp; first | done | with_reducible rfl)
      try simp only [List.getElem_toArray, List.getElem_cons_zero, List.getElem_cons_succ, Act.put, List.setIfInBounds_toArray, List.set_cons_zero, List.set_cons_succ]
      refine' wpAnyH_take (i := 9) (v := (.slice sa l.length sc)) rfl (by kernel_rfl) (by kernel_rfl) (by kernel_rfl) (fun _ _ _ h => h) (Or.inl ⟨by rfl, ?hy60010⟩) hHeld ?hn60010
      case hy60010 => (intro wz hSw; have j0 := cell_later hSw p0; have j1 := cell_later hSw p1; go_simp)
      try simp only [List.getElem_toArray, List.getElem_cons_zero, List.getElem_cons_succ, Act.put, List.setIfInBounds_toArray, List.set_cons_zero, List.set_cons_succ]
      refine' wpAnyH_take (i := 10) (v := _) rfl (by kernel_rfl) (by kernel_rfl) (by kernel_rfl) (fun _ _ _ h => h) (Or.inl ⟨by rfl, ?hy60011⟩) hHeld ?hn60011
      case hy60011 => (intro wz hSw; go_simp; first | done | with_reducible rfl)
      try simp only [List.getElem_toArray, List.getElem_cons_zero, List.getElem_cons_succ, Act.put, List.setIfInBounds_toArray, List.set_cons_zero, List.set_cons_succ]
      refine wpAnyH_ready (rs := [11, 13]) (by kernel_rfl) (by simp) ?_
      refine AllReadyH.cons rfl (fun K hK => ?_) (AllReadyH.cons rfl (fun K hK => ?_) AllReadyH.nil)
      · go_simp
        obtain ⟨ya, hya⟩ : ∃ y, y = yd.alloc (.cells #[.int .i64 2, .int .i64 (q : Int), .int .i64 0, .int .i64 0, .int .i64 0, .int .i64 0, .slice sa l.length sc, .slice none 0 0] 43) := ⟨_, rfl⟩
        rw [← hya]
        have Aa : Below yd.heap.size yd ya := by rw [hya]; exact (Below.refl _ _).alloc (Nat.le_refl _) _
        have Sa : StepAt ya yd.heap.size 0 ⟨2, (q : Int), 0, 0, 0, 0⟩ (.slice sa l.length sc) (.slice none 0 0) := by rw [hya]; exact (C8.new yd _ _ _ _ _ _ _ _ _).1
        clear hya
        refine hK.out _ _ (Below.then hHeld Aa hHeld.size) (fun hHeld => ?_)
        clear hK K
        refine' wpAnyH_take (i := 12) (v := _) rfl (by kernel_rfl) (by kernel_rfl) (by kernel_rfl) (fun _ _ _ h => h) (Or.inl ⟨by rfl, ?hy60012⟩) hHeld ?hn60012
        case hy60012 => (intro wz hSw; go_simp; first | done | with_reducible rfl)
        try simp only [List.getElem_toArray, List.getElem_cons_zero, List.getElem_cons_succ, Act.put, List.setIfInBounds_toArray, List.set_cons_zero, List.set_cons_succ]
        refine wpAnyH_ready (rs := [13]) (by kernel_rfl) (by simp) ?_
        refine AllReadyH.cons rfl (fun K hK => ?_) AllReadyH.nil
        go_simp
        obtain ⟨yb, hyb⟩ : ∃ y, y = ya.alloc (.cells #[.slice none 0 0, .slice none 0 0] 26) := ⟨_, rfl⟩
        rw [← hyb]
        have Ab : Below ya.heap.size ya yb := by rw [hyb]; exact (Below.refl _ _).alloc (Nat.le_refl _) _
        have Gb : C2 yb ya.heap.size (.slice none 0 0) (.slice none 0 0) := by rw [hyb]; exact C2.new _ _ _ _
        have zib : w5.heap.size ≤ ya.heap.size := hHeld.size
        have nsb : yd.heap.size ≠ ya.heap.size := by have := stepAt_ltT Sa; omega
        have Sb := Sa.on (w' := yb) (fun a v h => cell_later Ab h)
        clear hyb
        refine hK.out _ _ (Below.then hHeld Ab hHeld.size) (fun hHeld => ?_)
        clear hK K
        refine wpAnyH_ready (rs := [14]) (by kernel_rfl) (by simp) ?_
        refine AllReadyH.cons rfl (fun K hK => ?_) AllReadyH.nil
        obtain ⟨⟨g0, g1⟩, f0, f1⟩ := id Gb
        go_simp
        have HG : Hid _ := (C2.set0 (.slice la ls.length lc) Gb).set1 (.slice (some ⟨yd.heap.size, 0, none⟩) 1 1)
        clear g0 g1 f0 f1
        refine hK.out _ _ ((hHeld.setCell zib _).setCell zib _) (fun hHeld => ?_)
        clear hK K
        refine wpAnyH_done (by kernel_rfl) ?_ _
        have hS5 := stepAt_same (b := yd.heap.size) (w' := (yb.setCell ⟨ya.heap.size, 0, none⟩ (.slice la ls.length lc)).setCell ⟨ya.heap.size, 1, none⟩ (.slice (some ⟨yd.heap.size, 0, none⟩) 1 1)) ((Below.heap_setCell _ _ _ _ nsb).trans (Below.heap_setCell _ _ _ _ nsb)) Sb
        have HB5 : Hid (Below w5.heap.size w5 ((yb.setCell ⟨ya.heap.size, 0, none⟩ (.slice la ls.length lc)).setCell ⟨ya.heap.size, 1, none⟩ (.slice (some ⟨yd.heap.size, 0, none⟩) 1 1))) := hHeld
        generalize ((yb.setCell ⟨ya.heap.size, 0, none⟩ (.slice la ls.length lc)).setCell ⟨ya.heap.size, 1, none⟩ (.slice (some ⟨yd.heap.size, 0, none⟩) 1 1)) = w6 at *
        have B_w6 : Hid (Below w1.heap.size w1 w6) := Below.then B_w5.out HB5.out B_w5.out.size
        have CI : Hid _ := typeOk_any (HLR.out _ B_w6.out).1 (rep_oneIf hS5 (HLR.out _ B_w6.out).2.1) (HLR.out _ B_w6.out).2.2.1 (HLR.out _ B_w6.out).2.2.2
        obtain ⟨okin, hoki⟩ : ∃ x, (progB ls (d + 1 + 1) ([(⟨2, (q : Int), 0, 0, 0, 0⟩, l, noT (d + 1))] : List (Pay × Tr (d + 1) × Tr (d + 1))) && !(whyR ls (d + 1 + 1) ([(⟨2, (q : Int), 0, 0, 0, 0⟩, l, noT (d + 1))] : List (Pay × Tr (d + 1) × Tr (d + 1)))).2) = x := ⟨_, rfl⟩
        rw [hoki] at CI
        have HOKI : Hid _ := hoki
        obtain ⟨⟨g0, g1⟩, -⟩ := HG.out
        clear hHeld hS5 hoki p0 p1
        go_wp2_with fail
        go_at_call 27; refine Calls.mono CI.out ?_
        rintro e w7 ⟨rfl, hb7⟩
        have HB7 : Hid (Below w1.heap.size w1 w7) := Below.then B_w6.out hb7 B_w6.out.size
        clear hb7 CI g0 g1
        have hin : okin = false := by
          cases okin
          · rfl
          · have h1 := deep_fine HPB.out HOKI.out
            rw [HOKV.out] at h1; cases h1
        subst hin
        clear HOKI
        go_wp2
        go_ret
        exact ⟨rfl, HB1.out.trans (HB7.out.mono HB1.out.size)⟩
      · go_simp
        obtain ⟨yb, hyb⟩ : ∃ y, y = yd.alloc (.cells #[.slice none 0 0, .slice none 0 0] 26) := ⟨_, rfl⟩
        rw [← hyb]
        have Ab : Below yd.heap.size yd yb := by rw [hyb]; exact (Below.refl _ _).alloc (Nat.le_refl _) _
        have Gb : C2 yb yd.heap.size (.slice none 0 0) (.slice none 0 0) := by rw [hyb]; exact C2.new _ _ _ _
        have zib : w5.heap.size ≤ yd.heap.size := hHeld.size
        clear hyb
        refine hK.out _ _ (Below.then hHeld Ab hHeld.size) (fun hHeld => ?_)
        clear hK K
        refine wpAnyH_ready (rs := [11]) (by kernel_rfl) (by simp) ?_
        refine AllReadyH.cons rfl (fun K hK => ?_) AllReadyH.nil
        go_simp
        obtain ⟨ya, hya⟩ : ∃ y, y = yb.alloc (.cells #[.int .i64 2, .int .i64 (q : Int), .int .i64 0, .int .i64 0, .int .i64 0, .int .i64 0, .slice sa l.length sc, .slice none 0 0] 43) := ⟨_, rfl⟩
        rw [← hya]
        have Aa : Below yb.heap.size yb ya := by rw [hya]; exact (Below.refl _ _).alloc (Nat.le_refl _) _
        have Sa : StepAt ya yb.heap.size 0 ⟨2, (q : Int), 0, 0, 0, 0⟩ (.slice sa l.length sc) (.slice none 0 0) := by rw [hya]; exact (C8.new yb _ _ _ _ _ _ _ _ _).1
        have Ga := Gb.same (Aa.block _ (World.block_lt_of_cell? _ _ Gb.1.1))
        have nsb : yb.heap.size ≠ yd.heap.size := Nat.ne_of_gt (show yd.heap.size < yb.heap.size from World.block_lt_of_cell? _ _ Gb.1.1)
        clear hya
        refine hK.out _ _ (Below.then hHeld Aa hHeld.size) (fun hHeld => ?_)
        clear hK K
        refine' wpAnyH_take (i := 12) (v := _) rfl (by kernel_rfl) (by kernel_rfl) (by kernel_rfl) (fun _ _ _ h => h) (Or.inl ⟨by rfl, ?hy60013⟩) hHeld ?hn60013
        case hy60013 => (intro wz hSw; go_simp; first | done | with_reducible rfl)
        try simp only [List.getElem_toArray, List.getElem_cons_zero, List.getElem_cons_succ, Act.put, List.setIfInBounds_toArray, List.set_cons_zero, List.set_cons_succ]
        refine wpAnyH_ready (rs := [14]) (by kernel_rfl) (by simp) ?_
        refine AllReadyH.cons rfl (fun K hK => ?_) AllReadyH.nil
        obtain ⟨⟨g0, g1⟩, f0, f1⟩ := id Ga
        go_simp
        have HG : Hid _ := (C2.set0 (.slice la ls.length lc) Ga).set1 (.slice (some ⟨yb.heap.size, 0, none⟩) 1 1)
        clear g0 g1 f0 f1
        refine hK.out _ _ ((hHeld.setCell zib _).setCell zib _) (fun hHeld => ?_)
        clear hK K
        refine wpAnyH_done (by kernel_rfl) ?_ _
        have hS5 := stepAt_same (b := yb.heap.size) (w' := (ya.setCell ⟨yd.heap.size, 0, none⟩ (.slice la ls.length lc)).setCell ⟨yd.heap.size, 1, none⟩ (.slice (some ⟨yb.heap.size, 0, none⟩) 1 1)) ((Below.heap_setCell _ _ _ _ nsb).trans (Below.heap_setCell _ _ _ _ nsb)) Sa
        have HB5 : Hid (Below w5.heap.size w5 ((ya.setCell ⟨yd.heap.size, 0, none⟩ (.slice la ls.length lc)).setCell ⟨yd.heap.size, 1, none⟩ (.slice (some ⟨yb.heap.size, 0, none⟩) 1 1))) := hHeld
        generalize ((ya.setCell ⟨yd.heap.size, 0, none⟩ (.slice la ls.length lc)).setCell ⟨yd.heap.size, 1, none⟩ (.slice (some ⟨yb.heap.size, 0, none⟩) 1 1)) = w6 at *
        have B_w6 : Hid (Below w1.heap.size w1 w6) := Below.then B_w5.out HB5.out B_w5.out.size
        have CI : Hid _ := typeOk_any (HLR.out _ B_w6.out).1 (rep_oneIf hS5 (HLR.out _ B_w6.out).2.1) (HLR.out _ B_w6.out).2.2.1 (HLR.out _ B_w6.out).2.2.2
        obtain ⟨okin, hoki⟩ : ∃ x, (progB ls (d + 1 + 1) ([(⟨2, (q : Int), 0, 0, 0, 0⟩, l, noT (d + 1))] : List (Pay × Tr (d + 1) × Tr (d + 1))) && !(whyR ls (d + 1 + 1) ([(⟨2, (q : Int), 0, 0, 0, 0⟩, l, noT (d + 1))] : List (Pay × Tr (d + 1) × Tr (d + 1)))).2) = x := ⟨_, rfl⟩
        rw [hoki] at CI
        have HOKI : Hid _ := hoki
        obtain ⟨⟨g0, g1⟩, -⟩ := HG.out
        clear hHeld hS5 hoki p0 p1
        go_wp2_with fail
        go_at_call 27; refine Calls.mono CI.out ?_
        rintro e w7 ⟨rfl, hb7⟩
        have HB7 : Hid (Below w1.heap.size w1 w7) := Below.then B_w6.out hb7 B_w6.out.size
        clear hb7 CI g0 g1
        have hin : okin = false := by
          cases okin
          · rfl
          · have h1 := deep_fine HPB.out HOKI.out
            rw [HOKV.out] at h1; cases h1
        subst hin
        clear HOKI
        go_wp2
        go_ret
        exact ⟨rfl, HB1.out.trans (HB7.out.mono HB1.out.size)⟩
  · go_wp2_with fail
    go_at_call 18; refine Calls.mono (HP.out _ B_w4.out) ?_
    rintro e w5 ⟨rfl, hb_w5⟩
    have B_w5 : Hid (Below w1.heap.size w1 w5) := Below.then B_w4.out hb_w5 B_w4.out.size
    have G_w5 : Hid (C2 w5 w1.heap.size (.slice la ls.length lc) (.slice sa l.length sc)) := G_w4.out.same (hb_w5.block _ (World.block_lt_of_cell? _ _ G_w4.out.1.1))
    clear hb_w5
    try clear p0 p1
    obtain ⟨⟨p0, p1⟩, -⟩ := id G_w5.out
    cases pb
    · have C6 : Hid _ := HS.out _ B_w5.out
      go_wp2_with fail
      go_at_call 24; refine Calls.mono (C6.out) ?_
      rintro e w6 ⟨rfl, hb_w6⟩
      have B_w6 : Hid (Below w1.heap.size w1 w6) := Below.then B_w5.out hb_w6 B_w5.out.size
      have G_w6 : Hid (C2 w6 w1.heap.size (.slice la ls.length lc) (.slice sa l.length sc)) := G_w5.out.same (hb_w6.block _ (World.block_lt_of_cell? _ _ G_w5.out.1.1))
      clear hb_w6
      try clear p0 p1
      obtain ⟨⟨p0, p1⟩, -⟩ := id G_w6.out
      go_wp2
      go_ret
      exact ⟨rfl, HB1.out.trans (B_w6.out.mono HB1.out.size)⟩
    · have hn0 : ¬ ((ls.length : Int) = 0) := by omega
      obtain ⟨q, hq⟩ : ∃ q, len1 % ls.length = q := ⟨_, rfl⟩
      have hq1 : q < ls.length := by rw [← hq]; exact Nat.mod_lt _ (by omega)
      have HM : Hid ((len1 : Int).tmod (ls.length : Int) = (q : Int)) := (show (len1 : Int).tmod (ls.length : Int) = (q : Int) by rw [Int.tmod_eq_emod_of_nonneg (by omega), ← hq]; rfl)
      clear hq
      go_wp2_with fail
      refine wp_region_held (S := (fun wz => Below w5.heap.size w5 wz)) (by kernel_rfl) ?_
      change wpAnyH _ _ _ _ _ _ _ _ (World.drew _)
      have hHeld : (fun wz => Below w5.heap.size w5 wz) (World.drew w5) := (Below.refl _ _).drew
      obtain ⟨yd, hyd⟩ : ∃ y, y = World.drew w5 := ⟨_, rfl⟩
      rw [← hyd] at hHeld ⊢
      clear hyd
      refine' wpAnyH_take (i := 0) (v := _) rfl (by kernel_rfl) (by kernel_rfl) (by kernel_rfl) (fun _ _ _ h => h) (Or.inl ⟨by rfl, ?hy60014⟩) hHeld ?hn60014
      case hy60014 => (intro wz hSw; go_simp; first | done | with_reducible rfl)
      try simp only [List.getElem_toArray, List.getElem_cons_zero, List.getElem_cons_succ, Act.put, List.setIfInBounds_toArray, List.set_cons_zero, List.set_cons_succ]
      refine' wpAnyH_take (i := 1) (v := (.slice la ls.length lc)) rfl (by kernel_rfl) (by kernel_rfl) (by kernel_rfl) (fun _ _ _ h => h) (Or.inl ⟨by rfl, ?hy60015⟩) hHeld ?hn60015
      case hy60015 => (intro wz hSw; have j0 := cell_later hSw p0; have j1 := cell_later hSw p1; go_simp)
      try simp only [List.getElem_toArray, List.getElem_cons_zero, List.getElem_cons_succ, Act.put, List.setIfInBounds_toArray, List.set_cons_zero, List.set_cons_succ]
      refine' wpAnyH_take (i := 2) (v := _) rfl (by kernel_rfl) (by kernel_rfl) (by kernel_rfl) (fun _ _ _ h => h) (Or.inl ⟨by rfl, ?hy60016⟩) hHeld ?hn60016
      case hy60016 => (intro wz hSw; go_simp; first | done | with_reducible rfl)
      try simp only [List.getElem_toArray, List.getElem_cons_zero, List.getElem_cons_succ, Act.put, List.setIfInBounds_toArray, List.set_cons_zero, List.set_cons_succ]
      refine' wpAnyH_take (i := 3) (v := _) rfl (by kernel_rfl) (by kernel_rfl) (by kernel_rfl) (fun _ _ _ h => h) (Or.inl ⟨by rfl, ?hy60017⟩) hHeld ?hn60017
      case hy60017 => (intro wz hSw; go_simp; first | done | with_reducible rfl)
      try simp only [List.getElem_toArray, List.getElem_cons_zero, List.getElem_cons_succ, Act.put, List.setIfInBounds_toArray, List.set_cons_zero, List.set_cons_succ]
      refine' wpAnyH_take (i := 4) (v := _) rfl (by kernel_rfl) (by kernel_rfl) (by kernel_rfl) (fun _ _ _ h => h) (Or.inl ⟨by rfl, ?hy60018⟩) hHeld ?hn60018
      case hy60018 => (intro wz hSw; go_simp; first | done | with_reducible rfl)
      try simp only [List.getElem_toArray, List.getElem_cons_zero, List.getElem_cons_succ, Act.put, List.setIfInBounds_toArray, List.set_cons_zero, List.set_cons_succ]
      refine' wpAnyH_take (i := 5) (v := (.slice la ls.length lc)) rfl (by kernel_rfl) (by kernel_rfl) (by kernel_rfl) (fun _ _ _ h => h) (Or.inl ⟨by rfl, ?hy60019⟩) hHeld ?hn60019
      case hy60019 => (intro wz hSw; have j0 := cell_later hSw p0; have j1 := cell_later hSw p1; go_simp)
      try simp only [List.getElem_toArray, List.getElem_cons_zero, List.getElem_cons_succ, Act.put, List.setIfInBounds_toArray, List.set_cons_zero, List.set_cons_succ]
      refine' wpAnyH_take (i := 6) (v := _) rfl (by kernel_rfl) (by kernel_rfl) (by kernel_rfl) (fun _ _ _ h => h) (Or.inl ⟨by rfl, ?hy60020⟩) hHeld ?hn60020
      case hy60020 => (intro wz hSw; go_simp; first | done | with_reducible rfl)
      try simp only [List.getElem_toArray, List.getElem_cons_zero, List.getElem_cons_succ, Act.put, List.setIfInBounds_toArray, List.set_cons_zero, List.set_cons_succ]
      refine' wpAnyH_take (i := 7) (v := (.int .i64 (q : Int))) rfl (by kernel_rfl) (by kernel_rfl) (by kernel_rfl) (fun _ _ _ h => h) (Or.inl ⟨by rfl, ?hy60021⟩) hHeld ?hn60021
      case hy60021 => (intro wz hSw; have hm := HM.out; go_simp; first | done | (intro h; rw [h] at ll; simp at ll) | simp [hm] | omega)
      try simp only [List.getElem_toArray, List.getElem_cons_zero, List.getElem_cons_succ, Act.put, List.setIfInBounds_toArray, List.set_cons_zero, List.set_cons_succ]
      refine' wpAnyH_take (i := 8) (v := _) rfl (by kernel_rfl) (by kernel_rfl) (by kernel_rfl) (fun _ _ _ h => h) (Or.inl ⟨by rfl, ?hy60022⟩) hHeld ?hn60022
      case hy60022 => (intro wz hSw; go_simp; first | done | with_reducible rfl)
      try simp only [List.getElem_toArray, List.getElem_cons_zero, List.getElem_cons_succ, Act.put, List.setIfInBounds_toArray, List.set_cons_zero, List.set_cons_succ]
      refine' wpAnyH_take (i := 9) (v := (.slice sa l.length sc)) rfl (by kernel_rfl) (by kernel_rfl) (by kernel_rfl) (fun _ _ _ h => h) (Or.inl ⟨by rfl, ?hy60023⟩) hHeld ?hn60023
      case hy60023 => (intro wz hSw; have j0 := cell_later hSw p0; have j1 := cell_later hSw p1; go_simp)
      try simp only [List.getElem_toArray, List.getElem_cons_zero, List.getElem_cons_succ, Act.put, List.setIfInBounds_toArray, List.set_cons_zero, List.set_cons_succ]
      refine' wpAnyH_take (i := 10) (v := _) rfl (by kernel_rfl) (by kernel_rfl) (by kernel_rfl) (fun _ _ _ h => h) (Or.inl ⟨by rfl, ?hy60024⟩) hHeld ?hn60024
      case hy60024 => (intro wz hSw; go_simp; first | done | with_reducible rfl)
      try simp only [List.getElem_toArray, List.getElem_cons_zero, List.getElem_cons_succ, Act.put, List.setIfInBounds_toArray, List.set_cons_zero, List.set_cons_succ]
      refine wpAnyH_ready (rs := [11, 13]) (by kernel_rfl) (by simp) ?_
      refine AllReadyH.cons rfl (fun K hK => ?_) (AllReadyH.cons rfl (fun K hK => ?_) AllReadyH.nil)
      · go_simp
        obtain ⟨ya, hya⟩ : ∃ y, y = yd.alloc (.cells #[.int .i64 2, .int .i64 (q : Int), .int .i64 0, .int .i64 0, .int .i64 0, .int .i64 0, .slice sa l.length sc, .slice none 0 0] 43) := ⟨_, rfl⟩
        rw [← hya]
        have Aa : Below yd.heap.size yd ya := by rw [hya]; exact (Below.refl _ _).alloc (Nat.le_refl _) _
        have Sa : StepAt ya yd.heap.size 0 ⟨2, (q : Int), 0, 0, 0, 0⟩ (.slice sa l.length sc) (.slice none 0 0) := by rw [hya]; exact (C8.new yd _ _ _ _ _ _ _ _ _).1
        clear hya
        refine hK.out _ _ (Below.then hHeld Aa hHeld.size) (fun hHeld => ?_)
        clear hK K
        refine' wpAnyH_take (i := 12) (v := _) rfl (by kernel_rfl) (by kernel_rfl) (by kernel_rfl) (fun _ _ _ h => h) (Or.inl ⟨by rfl, ?hy60025⟩) hHeld ?hn60025
        case hy60025 => (intro wz hSw; go_simp; first | done | with_reducible rfl)
        try simp only [List.getElem_toArray, List.getElem_cons_zero, List.getElem_cons_succ, Act.put, List.setIfInBounds_toArray, List.set_cons_zero, List.set_cons_succ]
        refine wpAnyH_ready (rs := [13]) (by kernel_rfl) (by simp) ?_
        refine AllReadyH.cons rfl (fun K hK => ?_) AllReadyH.nil
        go_simp
        obtain ⟨yb, hyb⟩ : ∃ y, y = ya.alloc (.cells #[.slice none 0 0, .slice none 0 0] 26) := ⟨_, rfl⟩
        rw [← hyb]
        have Ab : Below ya.heap.size ya yb := by rw [hyb]; exact (Below.refl _ _).alloc (Nat.le_refl _) _
        have Gb : C2 yb ya.heap.size (.slice none 0 0) (.slice none 0 0) := by rw [hyb]; exact C2.new _ _ _ _
        have zib : w5.heap.size ≤ ya.heap.size := hHeld.size
        have nsb : yd.heap.size ≠ ya.heap.size := by have := stepAt_ltT Sa; omega
        have Sb := Sa.on (w' := yb) (fun a v h => cell_later Ab h)
        clear hyb
        refine hK.out _ _ (Below.then hHeld Ab hHeld.size) (fun hHeld => ?_)
        clear hK K
        refine wpAnyH_ready (rs := [14]) (by kernel_rfl) (by simp) ?_
        refine AllReadyH.cons rfl (fun K hK => ?_) AllReadyH.nil
        obtain ⟨⟨g0, g1⟩, f0, f1⟩ := id Gb
        go_simp
        have HG : Hid _ := (C2.set0 (.slice la ls.length lc) Gb).set1 (.slice (some ⟨yd.heap.size, 0, none⟩) 1 1)
        clear g0 g1 f0 f1
        refine hK.out _ _ ((hHeld.setCell zib _).setCell zib _) (fun hHeld => ?_)
        clear hK K
        refine wpAnyH_done (by kernel_rfl) ?_ _
        have hS5 := stepAt_same (b := yd.heap.size) (w' := (yb.setCell ⟨ya.heap.size, 0, none⟩ (.slice la ls.length lc)).setCell ⟨ya.heap.size, 1, none⟩ (.slice (some ⟨yd.heap.size, 0, none⟩) 1 1)) ((Below.heap_setCell _ _ _ _ nsb).trans (Below.heap_setCell _ _ _ _ nsb)) Sb
        have HB5 : Hid (Below w5.heap.size w5 ((yb.setCell ⟨ya.heap.size, 0, none⟩ (.slice la ls.length lc)).setCell ⟨ya.heap.size, 1, none⟩ (.slice (some ⟨yd.heap.size, 0, none⟩) 1 1))) := hHeld
        generalize ((yb.setCell ⟨ya.heap.size, 0, none⟩ (.slice la ls.length lc)).setCell ⟨ya.heap.size, 1, none⟩ (.slice (some ⟨yd.heap.size, 0, none⟩) 1 1)) = w6 at *
        have B_w6 : Hid (Below w1.heap.size w1 w6) := Below.then B_w5.out HB5.out B_w5.out.size
        have CI : Hid _ := typeOk_any (HLR.out _ B_w6.out).1 (rep_oneIf hS5 (HLR.out _ B_w6.out).2.1) (HLR.out _ B_w6.out).2.2.1 (HLR.out _ B_w6.out).2.2.2
        obtain ⟨okin, hoki⟩ : ∃ x, (progB ls (d + 1 + 1) ([(⟨2, (q : Int), 0, 0, 0, 0⟩, l, noT (d + 1))] : List (Pay × Tr (d + 1) × Tr (d + 1))) && !(whyR ls (d + 1 + 1) ([(⟨2, (q : Int), 0, 0, 0, 0⟩, l, noT (d + 1))] : List (Pay × Tr (d + 1) × Tr (d + 1)))).2) = x := ⟨_, rfl⟩
        rw [hoki] at CI
        have HOKI : Hid _ := hoki
        obtain ⟨⟨g0, g1⟩, -⟩ := HG.out
        clear hHeld hS5 hoki p0 p1
        go_wp2_with fail
        go_at_call 27; refine Calls.mono CI.out ?_
        rintro e w7 ⟨rfl, hb7⟩
        have HB7 : Hid (Below w1.heap.size w1 w7) := Below.then B_w6.out hb7 B_w6.out.size
        clear hb7 CI g0 g1
        clear HOKI
        cases okin
        · go_wp2
          go_ret
          exact ⟨rfl, HB1.out.trans (HB7.out.mono HB1.out.size)⟩
        · go_wp2
          go_ret
          exact ⟨rfl, HB1.out.trans (HB7.out.mono HB1.out.size)⟩
      · go_simp
        obtain ⟨yb, hyb⟩ : ∃ y, y = yd.alloc (.cells #[.slice none 0 0, .slice none 0 0] 26) := ⟨_, rfl⟩
        rw [← hyb]
        have Ab : Below yd.heap.size yd yb := by rw [hyb]; exact (Below.refl _ _).alloc (Nat.le_refl _) _
        have Gb : C2 yb yd.heap.size (.slice none 0 0) (.slice none 0 0) := by rw [hyb]; exact C2.new _ _ _ _
        have zib : w5.heap.size ≤ yd.heap.size := hHeld.size
        clear hyb
        refine hK.out _ _ (Below.then hHeld Ab hHeld.size) (fun hHeld => ?_)
        clear hK K
        refine wpAnyH_ready (rs := [11]) (by kernel_rfl) (by simp) ?_
        refine AllReadyH.cons rfl (fun K hK => ?_) AllReadyH.nil
        go_simp
        obtain ⟨ya, hya⟩ : ∃ y, y = yb.alloc (.cells #[.int .i64 2, .int .i64 (q : Int), .int .i64 0, .int .i64 0, .int .i64 0, .int .i64 0, .slice sa l.length sc, .slice none 0 0] 43) := ⟨_, rfl⟩
        rw [← hya]
        have Aa : Below yb.heap.size yb ya := by rw [hya]; exact (Below.refl _ _).alloc (Nat.le_refl _) _
        have Sa : StepAt ya yb.heap.size 0 ⟨2, (q : Int), 0, 0, 0, 0⟩ (.slice sa l.length sc) (.slice none 0 0) := by rw [hya]; exact (C8.new yb _ _ _ _ _ _ _ _ _).1
        have Ga := Gb.same (Aa.block _ (World.block_lt_of_cell? _ _ Gb.1.1))
        have nsb : yb.heap.size ≠ yd.heap.size := Nat.ne_of_gt (show yd.heap.size < yb.heap.size from World.block_lt_of_cell? _ _ Gb.1.1)
        clear hya
        refine hK.out _ _ (Below.then hHeld Aa hHeld.size) (fun hHeld => ?_)
        clear hK K
        refine' wpAnyH_take (i := 12) (v := _) rfl (by kernel_rfl) (by kernel_rfl) (by kernel_rfl) (fun _ _ _ h => h) (Or.inl ⟨by rfl, ?hy60026⟩) hHeld ?hn60026
        case hy60026 => (intro wz hSw; go_simp; first | done | with_reducible rfl)
        try simp only [List.getElem_toArray, List.getElem_cons_zero, List.getElem_cons_succ, Act.put, List.setIfInBounds_toArray, List.set_cons_zero, List.set_cons_succ]
        refine wpAnyH_ready (rs := [14]) (by kernel_rfl) (by simp) ?_
        refine AllReadyH.cons rfl (fun K hK => ?_) AllReadyH.nil
        obtain ⟨⟨g0, g1⟩, f0, f1⟩ := id Ga
        go_simp
        have HG : Hid _ := (C2.set0 (.slice la ls.length lc) Ga).set1 (.slice (some ⟨yb.heap.size, 0, none⟩) 1 1)
        clear g0 g1 f0 f1
        refine hK.out _ _ ((hHeld.setCell zib _).setCell zib _) (fun hHeld => ?_)
        clear hK K
        refine wpAnyH_done (by kernel_rfl) ?_ _
        have hS5 := stepAt_same (b := yb.heap.size) (w' := (ya.setCell ⟨yd.heap.size, 0, none⟩ (.slice la ls.length lc)).setCell ⟨yd.heap.size, 1, none⟩ (.slice (some ⟨yb.heap.size, 0, none⟩) 1 1)) ((Below.heap_setCell _ _ _ _ nsb).trans (Below.heap_setCell _ _ _ _ nsb)) Sa
        have HB5 : Hid (Below w5.heap.size w5 ((ya.setCell ⟨yd.heap.size, 0, none⟩ (.slice la ls.length lc)).setCell ⟨yd.heap.size, 1, none⟩ (.slice (some ⟨yb.heap.size, 0, none⟩) 1 1))) := hHeld
        generalize ((ya.setCell ⟨yd.heap.size, 0, none⟩ (.slice la ls.length lc)).setCell ⟨yd.heap.size, 1, none⟩ (.slice (some ⟨yb.heap.size, 0, none⟩) 1 1)) = w6 at *
        have B_w6 : Hid (Below w1.heap.size w1 w6) := Below.then B_w5.out HB5.out B_w5.out.size
        have CI : Hid _ := typeOk_any (HLR.out _ B_w6.out).1 (rep_oneIf hS5 (HLR.out _ B_w6.out).2.1) (HLR.out _ B_w6.out).2.2.1 (HLR.out _ B_w6.out).2.2.2
        obtain ⟨okin, hoki⟩ : ∃ x, (progB ls (d + 1 + 1) ([(⟨2, (q : Int), 0, 0, 0, 0⟩, l, noT (d + 1))] : List (Pay × Tr (d + 1) × Tr (d + 1))) && !(whyR ls (d + 1 + 1) ([(⟨2, (q : Int), 0, 0, 0, 0⟩, l, noT (d + 1))] : List (Pay × Tr (d + 1) × Tr (d + 1)))).2) = x := ⟨_, rfl⟩
        rw [hoki] at CI
        have HOKI : Hid _ := hoki
        obtain ⟨⟨g0, g1⟩, -⟩ := HG.out
        clear hHeld hS5 hoki p0 p1
        go_wp2_with fail
        go_at_call 27; refine Calls.mono CI.out ?_
        rintro e w7 ⟨rfl, hb7⟩
        have HB7 : Hid (Below w1.heap.size w1 w7) := Below.then B_w6.out hb7 B_w6.out.size
        clear hb7 CI g0 g1
        clear HOKI
        cases okin
        · go_wp2
          go_ret
          exact ⟨rfl, HB1.out.trans (HB7.out.mono HB1.out.size)⟩
        · go_wp2
          go_ret
          exact ⟨rfl, HB1.out.trans (HB7.out.mono HB1.out.size)⟩
end Go.Proofs.YtpmhkhajahoaaaaDoor
