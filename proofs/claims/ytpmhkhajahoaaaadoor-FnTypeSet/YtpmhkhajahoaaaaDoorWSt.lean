/- A variable may be set by another one just if that may become it: the law, walked. -/
import Derived.Test.YtpmhkhajahoaaaaDoorTmc
import Derived.Test.YtpmhkhajahoaaaaDoorTks
import Derived.Test.YtpmhkhajahoaaaaDoorDty
namespace Go.Proofs.YtpmhkhajahoaaaaDoor
open Go.RowKit
set_option linter.unusedSimpArgs false
set_option linter.unusedVariables false
attribute [local go_sem] World.cell?_alloc_some
theorem rep_leaf {w : World} {sb : Nat} {p : Pay} (hS : StepAt w sb 0 p (.slice none 0 0) (.slice none 0 0)) : Rep w 1 (.slice (some ⟨sb, 0, none⟩) 1 1) ([(p, (), ())] : List (Pay × Tr 0 × Tr 0)) :=
  ⟨_, 1, rfl, Nat.le_refl _, by unfold maxLen; omega, fun i hi => by
    match i, hi with
    | 0, _ => exact ⟨sb, 0, _, _, rfl, by simpa using hS, ⟨none, 0, rfl⟩, ⟨none, 0, rfl⟩⟩⟩
theorem rep_else {w : World} {sb : Nat} {p : Pay} {ev : Value} {T : Tr 1} (hS : StepAt w sb 0 p (.slice none 0 0) ev) (hR : Rep w 1 ev T) : Rep w 2 (.slice (some ⟨sb, 0, none⟩) 1 1) ([(p, ([] : List (Pay × Tr 0 × Tr 0)), T)] : List (Pay × Tr 1 × Tr 1)) :=
  ⟨_, 1, rfl, Nat.le_refl _, by unfold maxLen; omega, fun i hi => by
    match i, hi with
    | 0, _ => exact ⟨sb, 0, _, _, rfl, by simpa using hS, ⟨none, 0, rfl, Nat.le_refl _, by unfold maxLen; omega, fun i hi => by simp at hi⟩, hR⟩⟩
/-- A variable may be set by another one just if that may become it. -/
theorem one_fine {ls : List (Int × Int)} (hl : labsB ls = true) (h4 : ls.length ≤ 4) {v u : Int} (v0 : 0 ≤ v) (v1 : v < ls.length) (u0 : 0 ≤ u) (u1 : u < ls.length) :
    (progB ls 1 ([(⟨1, v, 2, u, 0, 0⟩, (), ())] : List (Pay × Tr 0 × Tr 0)) && !(whyR ls 1 ([(⟨1, v, 2, u, 0, 0⟩, (), ())] : List (Pay × Tr 0 × Tr 0))).2) = flL (lab ls u) (lab ls v) := by
  have hp : progB ls 1 ([(⟨1, v, 2, u, 0, 0⟩, (), ())] : List (Pay × Tr 0 × Tr 0)) = true := by
    unfold progB
    simp only [Bool.and_eq_true_iff, decide_eq_true_eq]
    refine ⟨h4, hl, ?_, by simp [cnt]⟩
    show (List.all [_] _) = true
    simp [payB, vIn, valB, ln, stB, v0, v1, u0, u1]
  refine Bool.eq_iff_iff.2 (Iff.trans (okR_iff hp) ?_)
  have e : prs ls 1 ([(⟨1, v, 2, u, 0, 0⟩, (), ())] : List (Pay × Tr 0 × Tr 0)) topL = [(⟨1, v, 2, u, 0, 0⟩, topL)] := by
    show List.flatMap _ [_] = _
    simp [prs]
  rw [e]
  have f : fineB ls ⟨1, v, 2, u, 0, 0⟩ topL = flL (lab ls u) (lab ls v) := by
    simp only [fineB]
    rw [if_pos trivial]
    show flL (anL topL (lab ls u)) (lab ls v) = _
    rw [anL_top (lab_ok hl u)]
  simp [f]
theorem two_fine {ls : List (Int × Int)} (hl : labsB ls = true) (h4 : ls.length ≤ 4) {v u : Int} (v0 : 0 ≤ v) (v1 : v < ls.length) (u0 : 0 ≤ u) (u1 : u < ls.length) :
    (progB ls 2 ([(⟨2, u, 0, 0, 0, 0⟩, ([] : List (Pay × Tr 0 × Tr 0)), ([(⟨1, v, 1, 0, 0, 0⟩, (), ())] : List (Pay × Tr 0 × Tr 0)))] : List (Pay × Tr 1 × Tr 1)) && !(whyR ls 2 ([(⟨2, u, 0, 0, 0, 0⟩, ([] : List (Pay × Tr 0 × Tr 0)), ([(⟨1, v, 1, 0, 0, 0⟩, (), ())] : List (Pay × Tr 0 × Tr 0)))] : List (Pay × Tr 1 × Tr 1))).2) = flL (lab ls u) (lab ls v) := by
  have hp : progB ls 2 ([(⟨2, u, 0, 0, 0, 0⟩, ([] : List (Pay × Tr 0 × Tr 0)), ([(⟨1, v, 1, 0, 0, 0⟩, (), ())] : List (Pay × Tr 0 × Tr 0)))] : List (Pay × Tr 1 × Tr 1)) = true := by
    unfold progB
    simp only [Bool.and_eq_true_iff, decide_eq_true_eq]
    refine ⟨h4, hl, ?_, by simp [cnt]⟩
    show (List.all [_] _) = true
    simp [payB, vIn, valB, nonV, ln, stB, v0, v1, u0, u1]
  refine Bool.eq_iff_iff.2 (Iff.trans (okR_iff hp) ?_)
  have e : prs ls 2 ([(⟨2, u, 0, 0, 0, 0⟩, ([] : List (Pay × Tr 0 × Tr 0)), ([(⟨1, v, 1, 0, 0, 0⟩, (), ())] : List (Pay × Tr 0 × Tr 0)))] : List (Pay × Tr 1 × Tr 1)) topL = [(⟨2, u, 0, 0, 0, 0⟩, topL), (⟨1, v, 1, 0, 0, 0⟩, anL topL (lab ls u))] := by
    show List.flatMap _ [_] = _
    simp [prs]
  rw [e]
  have f : fineB ls ⟨1, v, 1, 0, 0, 0⟩ (anL topL (lab ls u)) = flL (lab ls u) (lab ls v) := by
    simp only [fineB]
    rw [if_pos trivial]
    show flL (anL (anL topL (lab ls u)) topL) (lab ls v) = _
    rw [anL_top (lab_ok hl u), anL_top' (lab_ok hl u)]
  have g : fineB ls ⟨2, u, 0, 0, 0, 0⟩ topL = true := by simp [fineB]
  simp [f, g]

set_option maxHeartbeats 8000000 in
set_option maxRecDepth 20000 in
theorem fnTypeSet_walk (a0 : Option Addr) (len0 cap0 : Nat) (z0 : List Int) (w : World) (s0 s1 : Addr) (hg0 : w.cell? ⟨0, 0, none⟩ = some (.iface 152 (.pointer (some s0)))) (hg1 : w.cell? ⟨1, 0, none⟩ = some (.iface 152 (.pointer (some s1)))) (h0 : IsRow .u8 w a0 len0 cap0 z0) :
    Calls Tryd.prog 8 #[.slice a0 len0 cap0] w fun e w' => e = .returned (.bool true) ∧ Below w.heap.size w w' := by
  by_cases hl0 : (1048576 : Int) < (len0 : Int)
  · go_enter Tryd.func8, Tryd.ntmps8
    go_wp2
    go_ret
    exact ⟨rfl, Below.refl _ _⟩
  have C1 : Hid _ := drawTypeOk_any w a0 len0 cap0 z0 h0
  have HG0 : Hid _ := hg0
  have HG1 : Hid _ := hg1
  clear h0 hg0 hg1
  go_enter Tryd.func8, Tryd.ntmps8
  go_wp2_with fail
  go_at_call 26; refine Calls.mono C1.out ?_
  rintro e w1 ⟨lv, sv, ls, d, l, rfl, hLp, hRp, ll, cn, hb1⟩
  have hL := hLp.rep
  have hR := hRp.rep
  obtain ⟨la, lc, rfl, hll, hlm, -⟩ := id hL
  obtain ⟨sa, sc, hsv, hslc, hscm, -⟩ := id hR
  subst hsv
  have hR : Rep w1 (d + 1) (.slice sa l.length sc) (l : List (Pay × Tr d × Tr d)) := hR
  have hlc8 : l.length ≤ 400 := Nat.le_trans (show l.length ≤ (cnt (d + 1) (l : List (Pay × Tr d × Tr d))) from ln_le_cnt (d + 1) (l : List (Pay × Tr d × Tr d))) cn
  have A : Below w1.heap.size w1 (w1.alloc (.cells #[.slice la ls.length lc, .slice sa l.length sc] 26)) := (Below.refl _ _).alloc (Nat.le_refl _) _
  have G2 := C2.new w1 (.slice la ls.length lc) (.slice sa l.length sc) 26
  have HLR : Hid (∀ wz, Below w1.heap.size w1 wz → LRep wz (.slice la ls.length lc) ls ∧ Rep wz (d + 1) (.slice sa l.length sc) (l : List (Pay × Tr d × Tr d)) ∧ wz.cell? ⟨0, 0, none⟩ = some (.iface 152 (.pointer (some s0))) ∧ wz.cell? ⟨1, 0, none⟩ = some (.iface 152 (.pointer (some s1)))) := (show ∀ wz, _ from fun wz hb => ⟨hL.below hb, hR.below hb, cell_later hb (cell_later hb1 HG0.out), cell_later hb (cell_later hb1 HG1.out)⟩)
  have HB1 : Hid (Below w.heap.size w w1) := hb1
  obtain ⟨ok, hok⟩ : ∃ x, (progB ls (d + 1) (l : List (Pay × Tr d × Tr d)) && !(whyR ls (d + 1) (l : List (Pay × Tr d × Tr d))).2) = x := ⟨_, rfl⟩
  have HOKV : Hid _ := hok
  have HT : Hid (∀ wz, Below w1.heap.size w1 wz → Calls Tryd.prog 27 #[.agg #[.slice la ls.length lc, .slice sa l.length sc]] wz fun e w' => e = .returned (.bool ok) ∧ Below wz.heap.size wz w') := (show ∀ wz, _ from fun wz hb => by
    rw [← hok]; exact typeOk_any (HLR.out wz hb).1 (HLR.out wz hb).2.1 (HLR.out wz hb).2.2.1 (HLR.out wz hb).2.2.2)
  have HS : Hid (∀ wz, Below w1.heap.size w1 wz → Calls Tryd.prog 24 #[.agg #[.slice la ls.length lc, .slice sa l.length sc]] wz fun e w' => e = .returned (.bool ok) ∧ Below wz.heap.size wz w') := (show ∀ wz, _ from fun wz hb => by
    rw [← hok]; exact sTypeOk_any (HLR.out wz hb).1 (HLR.out wz hb).2.1 (Nat.le_trans cn (by decide)))
  obtain ⟨pb, hpb⟩ : ∃ x, progB ls (d + 1) (l : List (Pay × Tr d × Tr d)) = x := ⟨_, rfl⟩
  have HPB : Hid _ := hpb
  have HP : Hid (∀ wz, Below w1.heap.size w1 wz → Calls Tryd.prog 18 #[.agg #[.slice la ls.length lc, .slice sa l.length sc]] wz fun e w' => e = .returned (.bool pb) ∧ Below wz.heap.size wz w') := (show ∀ wz, _ from fun wz hb => by
    rw [← hpb]; exact sProgOk_any (HLR.out wz hb).1 (HLR.out wz hb).2.1 (Nat.le_trans cn (by decide)))
  generalize hw2 : w1.alloc (.cells #[.slice la ls.length lc, .slice sa l.length sc] 26) = w2 at A G2
  have HW2 : Hid _ := hw2
  have B_w2 : Hid (Below w1.heap.size w1 w2) := A
  have G_w2 : Hid (C2 w2 w1.heap.size (.slice la ls.length lc) (.slice sa l.length sc)) := G2
  clear hLp hRp hb1 C1 A G2 hw2 hL hR hok hpb
  go_wp2_with fail
  rw [HW2.out]
  clear HW2
  obtain ⟨⟨p0, p1⟩, -⟩ := id G_w2.out
  cases ok
  · refine wp_region_held (S := (fun wz => Below w2.heap.size w2 wz)) (by kernel_rfl) ?_
    change wpAnyH _ _ _ _ _ _ _ _ (World.drew _)
    have hHeld := (show Below w2.heap.size w2 (World.drew w2) from (Below.refl _ _).drew)
    refine' wpAnyH_take (i := 0) (v := (.agg #[.slice la ls.length lc, .slice sa l.length sc])) rfl (by kernel_rfl) (by kernel_rfl) (by kernel_rfl) (fun _ _ _ h => h) (Or.inl ⟨by rfl, ?hy150001⟩) hHeld ?hn150001
    case hy150001 => (intro wz hSw; have j0 := cell_later hSw p0; have j1 := cell_later hSw p1; go_simp)
    try simp only [List.getElem_toArray, List.getElem_cons_zero, List.getElem_cons_succ, Act.put, List.setIfInBounds_toArray, List.set_cons_zero, List.set_cons_succ]
    refine' wpAnyH_take (i := 2) (v := (.agg #[.slice la ls.length lc, .slice sa l.length sc])) rfl (by kernel_rfl) (by kernel_rfl) (by kernel_rfl) (fun _ _ _ h => h) (Or.inl ⟨by rfl, ?hy150002⟩) hHeld ?hn150002
    case hy150002 => (intro wz hSw; have j0 := cell_later hSw p0; have j1 := cell_later hSw p1; go_simp)
    try simp only [List.getElem_toArray, List.getElem_cons_zero, List.getElem_cons_succ, Act.put, List.setIfInBounds_toArray, List.set_cons_zero, List.set_cons_succ]
    refine wpAnyH_ready (rs := [1]) (by kernel_rfl) (by simp) ?_
    refine AllReadyH.cons rfl (fun K hK => ?_) AllReadyH.nil
    go_simp
    refine Calls.mono (HT.out _ (Below.then B_w2.out hHeld B_w2.out.size)) ?_; rintro e' x3 ⟨rfl, hbx⟩
    refine hK.out _ _ (Below.then hHeld hbx hHeld.size) (fun hHeld => ?_)
    clear hK K
    refine wpAnyH_ready (rs := [3]) (by kernel_rfl) (by simp) ?_
    refine AllReadyH.cons rfl (fun K hK => ?_) AllReadyH.nil
    go_simp
    refine Calls.mono (HS.out _ (Below.then B_w2.out hHeld B_w2.out.size)) ?_; rintro e' x4 ⟨rfl, hbx⟩
    refine hK.out _ _ (Below.then hHeld hbx hHeld.size) (fun hHeld => ?_)
    clear hK K
    refine' wpAnyH_take (i := 4) (v := _) rfl (by kernel_rfl) (by kernel_rfl) (by kernel_rfl) (fun _ _ _ h => h) (Or.inl ⟨by rfl, ?hy150003⟩) hHeld ?hn150003
    case hy150003 => (intro wz hSw; (try dsimp only at hSw); go_simp; first | done | with_reducible rfl)
    try simp only [List.getElem_toArray, List.getElem_cons_zero, List.getElem_cons_succ, Act.put, List.setIfInBounds_toArray, List.set_cons_zero, List.set_cons_succ]
    refine' wpAnyH_take (i := 5) (v := _) rfl (by kernel_rfl) (by kernel_rfl) (by kernel_rfl) (fun _ _ _ h => h) (Or.inl ⟨by rfl, ?hy150004⟩) hHeld ?hn150004
    case hy150004 => (intro wz hSw; (try dsimp only at hSw); go_simp; first | done | with_reducible rfl)
    try simp only [List.getElem_toArray, List.getElem_cons_zero, List.getElem_cons_succ, Act.put, List.setIfInBounds_toArray, List.set_cons_zero, List.set_cons_succ]
    refine' wpAnyH_take (i := 6) (v := (.agg #[.slice la ls.length lc, .slice sa l.length sc])) rfl (by kernel_rfl) (by kernel_rfl) (by kernel_rfl) (fun _ _ _ h => h) (Or.inl ⟨by rfl, ?hy150005⟩) hHeld ?hn150005
    case hy150005 => (intro wz hSw; have j0 := cell_later hSw p0; have j1 := cell_later hSw p1; go_simp)
    try simp only [List.getElem_toArray, List.getElem_cons_zero, List.getElem_cons_succ, Act.put, List.setIfInBounds_toArray, List.set_cons_zero, List.set_cons_succ]
    refine wpAnyH_ready (rs := [7]) (by kernel_rfl) (by simp) ?_
    refine AllReadyH.cons rfl (fun K hK => ?_) AllReadyH.nil
    go_simp
    refine Calls.mono (HP.out _ (Below.then B_w2.out hHeld B_w2.out.size)) ?_; rintro e' x5 ⟨rfl, hbx⟩
    refine hK.out _ _ (Below.then hHeld hbx hHeld.size) (fun hHeld => ?_)
    clear hK K
    refine' wpAnyH_take (i := 8) (v := _) rfl (by kernel_rfl) (by kernel_rfl) (by kernel_rfl) (fun _ _ _ h => h) (Or.inl ⟨by rfl, ?hy150006⟩) hHeld ?hn150006
    case hy150006 => (intro wz hSw; (try dsimp only at hSw); go_simp; first | done | with_reducible rfl)
    try simp only [List.getElem_toArray, List.getElem_cons_zero, List.getElem_cons_succ, Act.put, List.setIfInBounds_toArray, List.set_cons_zero, List.set_cons_succ]
    refine' wpAnyH_take (i := 9) (v := _) rfl (by kernel_rfl) (by kernel_rfl) (by kernel_rfl) (fun _ _ _ h => h) (Or.inl ⟨by rfl, ?hy150007⟩) hHeld ?hn150007
    case hy150007 => (intro wz hSw; (try dsimp only at hSw); go_simp; first | done | with_reducible rfl)
    try simp only [List.getElem_toArray, List.getElem_cons_zero, List.getElem_cons_succ, Act.put, List.setIfInBounds_toArray, List.set_cons_zero, List.set_cons_succ]
    refine wpAnyH_done (by kernel_rfl) ?_ _
    have hb_w5 := hHeld
    have w5e : ∃ x, x = x5 := ⟨_, rfl⟩
    obtain ⟨w5, rfl⟩ := w5e
    have B_w5 : Hid (Below w1.heap.size w1 w5) := Below.then B_w2.out hb_w5 B_w2.out.size
    have G_w5 : Hid (C2 w5 w1.heap.size (.slice la ls.length lc) (.slice sa l.length sc)) := G_w2.out.same (hb_w5.block _ (World.block_lt_of_cell? _ _ G_w2.out.1.1))
    clear hb_w5
    try clear p0 p1
    obtain ⟨⟨p0, p1⟩, -⟩ := id G_w5.out
    clear hHeld
    cases pb
    · go_wp2_with fail
      refine wp_region_held (S := (fun wz => Below w5.heap.size w5 wz)) (by kernel_rfl) ?_
      change wpAnyH _ _ _ _ _ _ _ _ (World.drew _)
      have hHeld := (show Below w5.heap.size w5 (World.drew w5) from (Below.refl _ _).drew)
      refine' wpAnyH_take (i := 0) (v := (.agg #[.slice la ls.length lc, .slice sa l.length sc])) rfl (by kernel_rfl) (by kernel_rfl) (by kernel_rfl) (fun _ _ _ h => h) (Or.inl ⟨by rfl, ?hy150008⟩) hHeld ?hn150008
      case hy150008 => (intro wz hSw; have j0 := cell_later hSw p0; have j1 := cell_later hSw p1; go_simp)
      try simp only [List.getElem_toArray, List.getElem_cons_zero, List.getElem_cons_succ, Act.put, List.setIfInBounds_toArray, List.set_cons_zero, List.set_cons_succ]
      refine' wpAnyH_take (i := 2) (v := (.agg #[.slice la ls.length lc, .slice sa l.length sc])) rfl (by kernel_rfl) (by kernel_rfl) (by kernel_rfl) (fun _ _ _ h => h) (Or.inl ⟨by rfl, ?hy150009⟩) hHeld ?hn150009
      case hy150009 => (intro wz hSw; have j0 := cell_later hSw p0; have j1 := cell_later hSw p1; go_simp)
      try simp only [List.getElem_toArray, List.getElem_cons_zero, List.getElem_cons_succ, Act.put, List.setIfInBounds_toArray, List.set_cons_zero, List.set_cons_succ]
      refine wpAnyH_ready (rs := [1]) (by kernel_rfl) (by simp) ?_
      refine AllReadyH.cons rfl (fun K hK => ?_) AllReadyH.nil
      go_simp
      refine Calls.mono (HT.out _ (Below.then B_w5.out hHeld B_w5.out.size)) ?_; rintro e' x6 ⟨rfl, hbx⟩
      refine hK.out _ _ (Below.then hHeld hbx hHeld.size) (fun hHeld => ?_)
      clear hK K
      refine wpAnyH_ready (rs := [3]) (by kernel_rfl) (by simp) ?_
      refine AllReadyH.cons rfl (fun K hK => ?_) AllReadyH.nil
      go_simp
      refine Calls.mono (HS.out _ (Below.then B_w5.out hHeld B_w5.out.size)) ?_; rintro e' x7 ⟨rfl, hbx⟩
      refine hK.out _ _ (Below.then hHeld hbx hHeld.size) (fun hHeld => ?_)
      clear hK K
      refine' wpAnyH_take (i := 4) (v := _) rfl (by kernel_rfl) (by kernel_rfl) (by kernel_rfl) (fun _ _ _ h => h) (Or.inl ⟨by rfl, ?hy150010⟩) hHeld ?hn150010
      case hy150010 => (intro wz hSw; (try dsimp only at hSw); go_simp; first | done | with_reducible rfl)
      try simp only [List.getElem_toArray, List.getElem_cons_zero, List.getElem_cons_succ, Act.put, List.setIfInBounds_toArray, List.set_cons_zero, List.set_cons_succ]
      refine' wpAnyH_take (i := 5) (v := _) rfl (by kernel_rfl) (by kernel_rfl) (by kernel_rfl) (fun _ _ _ h => h) (Or.inl ⟨by rfl, ?hy150011⟩) hHeld ?hn150011
      case hy150011 => (intro wz hSw; (try dsimp only at hSw); go_simp; first | done | with_reducible rfl)
      try simp only [List.getElem_toArray, List.getElem_cons_zero, List.getElem_cons_succ, Act.put, List.setIfInBounds_toArray, List.set_cons_zero, List.set_cons_succ]
      refine wpAnyH_done (by kernel_rfl) ?_ _
      have hb_w7 := hHeld
      have w7e : ∃ x, x = x7 := ⟨_, rfl⟩
      obtain ⟨w7, rfl⟩ := w7e
      have B_w7 : Hid (Below w1.heap.size w1 w7) := Below.then B_w5.out hb_w7 B_w5.out.size
      have G_w7 : Hid (C2 w7 w1.heap.size (.slice la ls.length lc) (.slice sa l.length sc)) := G_w5.out.same (hb_w7.block _ (World.block_lt_of_cell? _ _ G_w5.out.1.1))
      clear hb_w7
      try clear p0 p1
      obtain ⟨⟨p0, p1⟩, -⟩ := id G_w7.out
      go_wp2
      go_ret
      exact ⟨rfl, HB1.out.trans (B_w7.out.mono HB1.out.size)⟩
    · have hn8 : (ls.length : Int) ≤ 8 := by omega
      have hlab := progB_labs HPB.out
      have hn4 := progB_len HPB.out
      try simp only [Bool.not_true, Bool.not_false]
      go_wp2
      go_loopw [4] (fun j wr => ∃ (v : Nat), v ≤ ls.length ∧ j = .int .i64 v ∧ Below w5.heap.size w5 wr) (fun j _ => ls.length - (intOf j).toNat)
      case atStart => exact ⟨0, by omega, rfl, Below.refl _ _⟩
      case round =>
        obtain ⟨v, hv, rfl, hB⟩ := hrel
        have HB : Hid _ := hB
        have p0' := cell_later hB p0
        have i0' : (0 : Int) ≤ (v : Int) := by omega
        clear hB
        by_cases hlt : v < ls.length
        · have i1' : (v : Int) < (ls.length : Int) := by omega
          obtain ⟨wo, rfl⟩ : ∃ x, x = wr := ⟨_, rfl⟩
          have HWR : Hid (Below wo.heap.size wo wo) := Below.refl _ _
          go_wp2
          go_loopw [5] (fun j wq => ∃ (u : Nat), u ≤ ls.length ∧ j = .int .i64 u ∧ Below wo.heap.size wo wq) (fun j _ => ls.length - (intOf j).toNat)
          case atStart => exact ⟨0, by omega, rfl, HWR.out⟩
          case round =>
            obtain ⟨wq, rfl⟩ : ∃ x, x = wr := ⟨_, rfl⟩
            obtain ⟨u, hu, rfl, hB2⟩ := hrel
            have HB2 : Hid _ := hB2
            have p0q := cell_later hB2 p0'
            have h0' : (0 : Int) ≤ (u : Int) := by omega
            by_cases hlt3 : u < ls.length
            · have h1' : (u : Int) < (ls.length : Int) := by omega
              have BQ : Below w1.heap.size w1 wq := Below.then B_w5.out (Below.then HB.out hB2 HB.out.size) B_w5.out.size
              obtain ⟨lb, lf, hla, q0, q1⟩ := (HLR.out _ BQ).1.at i0' i1'
              subst hla
              obtain ⟨lb', lf', hla', u0, u1⟩ := (HLR.out _ BQ).1.at h0' h1'
              cases hla'
              simp only [Int.toNat_natCast] at q0 q1 u0 u1
              obtain ⟨y1, hy1⟩ : ∃ y, y = wq.alloc (.cells #[.int .i64 1, .int .i64 (v : Int), .int .i64 2, .int .i64 (u : Int), .int .i64 0, .int .i64 0, .slice none 0 0, .slice none 0 0] 43) := ⟨_, rfl⟩
              have Z1 : y1.heap.size = wq.heap.size + 1 := by rw [hy1]; simp
              have A1 : Below wq.heap.size wq y1 := by rw [hy1]; exact (Below.refl _ _).alloc (Nat.le_refl _) _
              obtain ⟨y2, hy2⟩ : ∃ y, y = y1.alloc (.cells #[.int .i64 1, .int .i64 (v : Int), .int .i64 1, .int .i64 0, .int .i64 0, .int .i64 0, .slice none 0 0, .slice none 0 0] 43) := ⟨_, rfl⟩
              have Z2 : y2.heap.size = wq.heap.size + 2 := by rw [hy2]; simp [Z1]
              have A2 : Below y1.heap.size y1 y2 := by rw [hy2]; exact (Below.refl _ _).alloc (Nat.le_refl _) _
              have N2 : C8 y2 (wq.heap.size + 1) (.int .i64 1) (.int .i64 (v : Int)) (.int .i64 1) (.int .i64 0) (.int .i64 0) (.int .i64 0) (.slice none 0 0) (.slice none 0 0) := by have h := C8.new y1 (.int .i64 1) (.int .i64 (v : Int)) (.int .i64 1) (.int .i64 0) (.int .i64 0) (.int .i64 0) (.slice none 0 0) (.slice none 0 0) 43; rw [← hy2, Z1] at h; exact h
              obtain ⟨y3, hy3⟩ : ∃ y, y = y2.alloc (.cells #[.int .i64 1, .int .i64 (v : Int), .int .i64 2, .int .i64 (u : Int), .int .i64 0, .int .i64 0, .slice none 0 0, .slice none 0 0] 43) := ⟨_, rfl⟩
              have Z3 : y3.heap.size = wq.heap.size + 3 := by rw [hy3]; simp [Z2]
              have A3 : Below y2.heap.size y2 y3 := by rw [hy3]; exact (Below.refl _ _).alloc (Nat.le_refl _) _
              have S3 : StepAt y3 (wq.heap.size + 2) 0 ⟨1, (v : Int), 2, (u : Int), 0, 0⟩ (.slice none 0 0) (.slice none 0 0) := by have h := (C8.new y2 (.int .i64 1) (.int .i64 (v : Int)) (.int .i64 2) (.int .i64 (u : Int)) (.int .i64 0) (.int .i64 0) (.slice none 0 0) (.slice none 0 0) 43).1; rw [← hy3, Z2] at h; exact h
              obtain ⟨y4, hy4⟩ : ∃ y, y = y3.alloc (.cells #[.slice (some ⟨lb, lf, none⟩) ls.length lc, .slice (some ⟨wq.heap.size + 2, 0, none⟩) 1 1] 26) := ⟨_, rfl⟩
              have Z4 : y4.heap.size = wq.heap.size + 4 := by rw [hy4]; simp [Z3]
              have A4 : Below y3.heap.size y3 y4 := by rw [hy4]; exact (Below.refl _ _).alloc (Nat.le_refl _) _
              have G4 : C2 y4 (wq.heap.size + 3) (.slice (some ⟨lb, lf, none⟩) ls.length lc) (.slice (some ⟨wq.heap.size + 2, 0, none⟩) 1 1) := by have h := C2.new y3 (.slice (some ⟨lb, lf, none⟩) ls.length lc) (.slice (some ⟨wq.heap.size + 2, 0, none⟩) 1 1) 26; rw [← hy4, Z3] at h; exact h
              have A04 : Below wq.heap.size wq y4 := Below.then A1 (Below.then A2 (Below.then A3 A4 A3.size) A2.size) A1.size
              have p04 := cell_later A04 p0q
              obtain ⟨⟨n0, n1, n2, n3, n4, n5, n6, n7⟩, -⟩ := C8.below (C8.below N2 A3) A4
              rw [hy4, hy3, hy2, hy1] at p04 n0 n1 n2 n3 n4 n5 n6 n7
              obtain ⟨y5, hy5⟩ : ∃ y, y = y4.alloc (.cells #[.int .i64 1, .int .i64 (v : Int), .int .i64 1, .int .i64 0, .int .i64 0, .int .i64 0, .slice none 0 0, .slice none 0 0] 43) := ⟨_, rfl⟩
              have Z5 : y5.heap.size = wq.heap.size + 5 := by rw [hy5]; simp [Z4]
              have A5 : Below y4.heap.size y4 y5 := by rw [hy5]; exact (Below.refl _ _).alloc (Nat.le_refl _) _
              have S5 : StepAt y5 (wq.heap.size + 4) 0 ⟨1, (v : Int), 1, 0, 0, 0⟩ (.slice none 0 0) (.slice none 0 0) := by have h := (C8.new y4 (.int .i64 1) (.int .i64 (v : Int)) (.int .i64 1) (.int .i64 0) (.int .i64 0) (.int .i64 0) (.slice none 0 0) (.slice none 0 0) 43).1; rw [← hy5, Z4] at h; exact h
              obtain ⟨y6, hy6⟩ : ∃ y, y = y5.alloc (.cells #[.int .i64 2, .int .i64 (u : Int), .int .i64 0, .int .i64 0, .int .i64 0, .int .i64 0, .slice none 0 0, .slice (some ⟨wq.heap.size + 4, 0, none⟩) 1 1] 43) := ⟨_, rfl⟩
              have Z6 : y6.heap.size = wq.heap.size + 6 := by rw [hy6]; simp [Z5]
              have A6 : Below y5.heap.size y5 y6 := by rw [hy6]; exact (Below.refl _ _).alloc (Nat.le_refl _) _
              have S6 : StepAt y6 (wq.heap.size + 5) 0 ⟨2, (u : Int), 0, 0, 0, 0⟩ (.slice none 0 0) (.slice (some ⟨wq.heap.size + 4, 0, none⟩) 1 1) := by have h := (C8.new y5 (.int .i64 2) (.int .i64 (u : Int)) (.int .i64 0) (.int .i64 0) (.int .i64 0) (.int .i64 0) (.slice none 0 0) (.slice (some ⟨wq.heap.size + 4, 0, none⟩) 1 1) 43).1; rw [← hy6, Z5] at h; exact h
              obtain ⟨y7, hy7⟩ : ∃ y, y = y6.alloc (.cells #[.slice (some ⟨lb, lf, none⟩) ls.length lc, .slice (some ⟨wq.heap.size + 5, 0, none⟩) 1 1] 26) := ⟨_, rfl⟩
              have Z7 : y7.heap.size = wq.heap.size + 7 := by rw [hy7]; simp [Z6]
              have A7 : Below y6.heap.size y6 y7 := by rw [hy7]; exact (Below.refl _ _).alloc (Nat.le_refl _) _
              have G7 : C2 y7 (wq.heap.size + 6) (.slice (some ⟨lb, lf, none⟩) ls.length lc) (.slice (some ⟨wq.heap.size + 5, 0, none⟩) 1 1) := by have h := C2.new y6 (.slice (some ⟨lb, lf, none⟩) ls.length lc) (.slice (some ⟨wq.heap.size + 5, 0, none⟩) 1 1) 26; rw [← hy7, Z6] at h; exact h
              have A67 : Below y6.heap.size y6 y7 := A7
              have A57 : Below y5.heap.size y5 y7 := Below.then A6 A67 A6.size
              have A47 : Below y4.heap.size y4 y7 := Below.then A5 A57 A5.size
              have A37 : Below y3.heap.size y3 y7 := Below.then A4 A47 A4.size
              have A27 : Below y2.heap.size y2 y7 := Below.then A3 A37 A3.size
              have A17 : Below y1.heap.size y1 y7 := Below.then A2 A27 A2.size
              have A07 : Below wq.heap.size wq y7 := Below.then A1 A17 A1.size
              have HWY : Hid ((((((((wq.alloc (.cells #[.int .i64 1, .int .i64 (v : Int), .int .i64 2, .int .i64 (u : Int), .int .i64 0, .int .i64 0, .slice none 0 0, .slice none 0 0] 43)).alloc (.cells #[.int .i64 1, .int .i64 (v : Int), .int .i64 1, .int .i64 0, .int .i64 0, .int .i64 0, .slice none 0 0, .slice none 0 0] 43)).alloc (.cells #[.int .i64 1, .int .i64 (v : Int), .int .i64 2, .int .i64 (u : Int), .int .i64 0, .int .i64 0, .slice none 0 0, .slice none 0 0] 43)).alloc (.cells #[.slice (some ⟨lb, lf, none⟩) ls.length lc, .slice (some ⟨wq.heap.size + 2, 0, none⟩) 1 1] 26)).alloc (.cells #[.int .i64 1, .int .i64 (v : Int), .int .i64 1, .int .i64 0, .int .i64 0, .int .i64 0, .slice none 0 0, .slice none 0 0] 43)).alloc (.cells #[.int .i64 2, .int .i64 (u : Int), .int .i64 0, .int .i64 0, .int .i64 0, .int .i64 0, .slice none 0 0, .slice (some ⟨wq.heap.size + 4, 0, none⟩) 1 1] 43)).alloc (.cells #[.slice (some ⟨lb, lf, none⟩) ls.length lc, .slice (some ⟨wq.heap.size + 5, 0, none⟩) 1 1] 26)) = y7) := (show (((((((wq.alloc (.cells #[.int .i64 1, .int .i64 (v : Int), .int .i64 2, .int .i64 (u : Int), .int .i64 0, .int .i64 0, .slice none 0 0, .slice none 0 0] 43)).alloc (.cells #[.int .i64 1, .int .i64 (v : Int), .int .i64 1, .int .i64 0, .int .i64 0, .int .i64 0, .slice none 0 0, .slice none 0 0] 43)).alloc (.cells #[.int .i64 1, .int .i64 (v : Int), .int .i64 2, .int .i64 (u : Int), .int .i64 0, .int .i64 0, .slice none 0 0, .slice none 0 0] 43)).alloc (.cells #[.slice (some ⟨lb, lf, none⟩) ls.length lc, .slice (some ⟨wq.heap.size + 2, 0, none⟩) 1 1] 26)).alloc (.cells #[.int .i64 1, .int .i64 (v : Int), .int .i64 1, .int .i64 0, .int .i64 0, .int .i64 0, .slice none 0 0, .slice none 0 0] 43)).alloc (.cells #[.int .i64 2, .int .i64 (u : Int), .int .i64 0, .int .i64 0, .int .i64 0, .int .i64 0, .slice none 0 0, .slice (some ⟨wq.heap.size + 4, 0, none⟩) 1 1] 43)).alloc (.cells #[.slice (some ⟨lb, lf, none⟩) ls.length lc, .slice (some ⟨wq.heap.size + 5, 0, none⟩) 1 1] 26)) = y7 by rw [hy7, hy6, hy5, hy4, hy3, hy2, hy1])
              have B7 : Hid (Below w1.heap.size w1 y7) := Below.then BQ A07 BQ.size
              have CO0 := fun wz hb => typeOk_any (w := wz) (HLR.out wz (Below.then B7.out hb B7.out.size)).1 (rep_leaf (S3.on (fun a x k => cell_later hb (cell_later A37 k)))) (HLR.out wz (Below.then B7.out hb B7.out.size)).2.2.1 (HLR.out wz (Below.then B7.out hb B7.out.size)).2.2.2
              have CW0 := fun wz hb => typeOk_any (w := wz) (HLR.out wz (Below.then B7.out hb B7.out.size)).1 (rep_else (S6.on (fun a x k => cell_later hb (cell_later A67 k))) (rep_leaf (S5.on (fun a x k => cell_later hb (cell_later A57 k))))) (HLR.out wz (Below.then B7.out hb B7.out.size)).2.2.1 (HLR.out wz (Below.then B7.out hb B7.out.size)).2.2.2
              rw [one_fine hlab hn4 i0' i1' h0' h1'] at CO0
              rw [two_fine hlab hn4 i0' i1' h0' h1'] at CW0
              have CF : Hid _ := fun wz => flows_ok (lab_ok hlab (u : Int)) (lab_ok hlab (v : Int)) wz
              have HA7 : Hid _ := A07
              have p0z := cell_later A07 p0q
              replace q0 := cell_later A07 q0
              replace q1 := cell_later A07 q1
              replace u0 := cell_later A07 u0
              replace u1 := cell_later A07 u1
              have g40 := cell_later A47 G4.1.1
              have g41 := cell_later A47 G4.1.2
              obtain ⟨⟨g70, g71⟩, -⟩ := G7
              obtain ⟨fl, hfl⟩ : ∃ b, flL (lab ls (u : Int)) (lab ls (v : Int)) = b := ⟨_, rfl⟩
              rw [hfl] at CO0 CW0 CF
              have CO : Hid _ := CO0
              have CW : Hid _ := CW0
              have zq7 : wq.heap.size ≤ y7.heap.size := A07.size
              generalize lab ls (u : Int) = lu at *
              generalize lab ls (v : Int) = lv2 at *
              clear hy1 hy2 hy3 hy4 hy5 hy6 hy7 Z1 Z2 Z3 Z4 Z5 Z6 Z7 A1 A2 A3 A4 A5 A6 A7 A67 A57 A47 A37 A27 A17 A07 S3 S5 S6 G4 N2 A04 CO0 CW0 hfl hB2 BQ y1 y2 y3 y4 y5 y6
              go_wp2_with fail
              rw [HWY.out]
              clear HWY p04 n0 n1 n2 n3 n4 n5 n6 n7
              refine wp_region_held (S := (fun wz => Below y7.heap.size y7 wz)) (by kernel_rfl) ?_
              change wpAnyH _ _ _ _ _ _ _ _ (World.drew _)
              have hHeld := (show Below y7.heap.size y7 (World.drew y7) from (Below.refl _ _).drew)
              refine' wpAnyH_take (i := 0) (v := _) rfl (by kernel_rfl) (by kernel_rfl) (by kernel_rfl) (fun _ _ _ h => h) (Or.inl ⟨by rfl, ?hy150023⟩) hHeld ?hn150023
              case hy150023 => (intro wz hSw; (try dsimp only at hSw); go_simp; first | done | with_reducible rfl)
              try simp only [List.getElem_toArray, List.getElem_cons_zero, List.getElem_cons_succ, Act.put, List.setIfInBounds_toArray, List.set_cons_zero, List.set_cons_succ]
              refine' wpAnyH_take (i := 1) (v := (.slice (some ⟨lb, lf, none⟩) ls.length lc)) rfl (by kernel_rfl) (by kernel_rfl) (by kernel_rfl) (fun _ _ _ h => h) (Or.inl ⟨by rfl, ?hy150024⟩) hHeld ?hn150024
              case hy150024 => (intro wz hSw; have j0 := cell_later hSw p0z; go_simp)
              try simp only [List.getElem_toArray, List.getElem_cons_zero, List.getElem_cons_succ, Act.put, List.setIfInBounds_toArray, List.set_cons_zero, List.set_cons_succ]
              refine' wpAnyH_take (i := 2) (v := _) rfl (by kernel_rfl) (by kernel_rfl) (by kernel_rfl) (fun _ _ _ h => h) (Or.inl ⟨by rfl, ?hy150025⟩) hHeld ?hn150025
              case hy150025 => (intro wz hSw; (try dsimp only at hSw); go_simp; first | done | with_reducible rfl)
              try simp only [List.getElem_toArray, List.getElem_cons_zero, List.getElem_cons_succ, Act.put, List.setIfInBounds_toArray, List.set_cons_zero, List.set_cons_succ]
              refine' wpAnyH_take (i := 3) (v := (.pointer (some ⟨lb, lf + u * 2, none⟩))) rfl (by kernel_rfl) (by kernel_rfl) (by kernel_rfl) (fun _ _ _ h => h) (Or.inl ⟨by rfl, ?hy150026⟩) hHeld ?hn150026
              case hy150026 => (intro wz hSw; go_simp; first | done | (simp; done))
              try simp only [List.getElem_toArray, List.getElem_cons_zero, List.getElem_cons_succ, Act.put, List.setIfInBounds_toArray, List.set_cons_zero, List.set_cons_succ]
              refine' wpAnyH_take (i := 4) (v := (.agg #[.int .i64 lu.1, .int .i64 lu.2])) rfl (by kernel_rfl) (by kernel_rfl) (by kernel_rfl) (fun _ _ _ h => h) (Or.inl ⟨by rfl, ?hy150027⟩) hHeld ?hn150027
              case hy150027 => (intro wz hSw; have j0 := cell_later hSw u0; have j1 := cell_later hSw u1; go_simp)
              try simp only [List.getElem_toArray, List.getElem_cons_zero, List.getElem_cons_succ, Act.put, List.setIfInBounds_toArray, List.set_cons_zero, List.set_cons_succ]
              refine' wpAnyH_take (i := 5) (v := _) rfl (by kernel_rfl) (by kernel_rfl) (by kernel_rfl) (fun _ _ _ h => h) (Or.inl ⟨by rfl, ?hy150028⟩) hHeld ?hn150028
              case hy150028 => (intro wz hSw; (try dsimp only at hSw); go_simp; first | done | with_reducible rfl)
              try simp only [List.getElem_toArray, List.getElem_cons_zero, List.getElem_cons_succ, Act.put, List.setIfInBounds_toArray, List.set_cons_zero, List.set_cons_succ]
              refine' wpAnyH_take (i := 6) (v := (.slice (some ⟨lb, lf, none⟩) ls.length lc)) rfl (by kernel_rfl) (by kernel_rfl) (by kernel_rfl) (fun _ _ _ h => h) (Or.inl ⟨by rfl, ?hy150029⟩) hHeld ?hn150029
              case hy150029 => (intro wz hSw; have j0 := cell_later hSw p0z; go_simp)
              try simp only [List.getElem_toArray, List.getElem_cons_zero, List.getElem_cons_succ, Act.put, List.setIfInBounds_toArray, List.set_cons_zero, List.set_cons_succ]
              refine' wpAnyH_take (i := 7) (v := _) rfl (by kernel_rfl) (by kernel_rfl) (by kernel_rfl) (fun _ _ _ h => h) (Or.inl ⟨by rfl, ?hy150030⟩) hHeld ?hn150030
              case hy150030 => (intro wz hSw; (try dsimp only at hSw); go_simp; first | done | with_reducible rfl)
              try simp only [List.getElem_toArray, List.getElem_cons_zero, List.getElem_cons_succ, Act.put, List.setIfInBounds_toArray, List.set_cons_zero, List.set_cons_succ]
              refine' wpAnyH_take (i := 8) (v := (.pointer (some ⟨lb, lf + v * 2, none⟩))) rfl (by kernel_rfl) (by kernel_rfl) (by kernel_rfl) (fun _ _ _ h => h) (Or.inl ⟨by rfl, ?hy150031⟩) hHeld ?hn150031
              case hy150031 => (intro wz hSw; go_simp; first | done | (simp; done))
              try simp only [List.getElem_toArray, List.getElem_cons_zero, List.getElem_cons_succ, Act.put, List.setIfInBounds_toArray, List.set_cons_zero, List.set_cons_succ]
              refine' wpAnyH_take (i := 9) (v := (.agg #[.int .i64 lv2.1, .int .i64 lv2.2])) rfl (by kernel_rfl) (by kernel_rfl) (by kernel_rfl) (fun _ _ _ h => h) (Or.inl ⟨by rfl, ?hy150032⟩) hHeld ?hn150032
              case hy150032 => (intro wz hSw; have j0 := cell_later hSw q0; have j1 := cell_later hSw q1; go_simp)
              try simp only [List.getElem_toArray, List.getElem_cons_zero, List.getElem_cons_succ, Act.put, List.setIfInBounds_toArray, List.set_cons_zero, List.set_cons_succ]
              refine wpAnyH_ready (rs := [10]) (by kernel_rfl) (by simp) ?_
              refine AllReadyH.cons rfl (fun K hK => ?_) AllReadyH.nil
              go_simp
              refine Calls.mono (CF.out _) ?_; rintro e' x10 ⟨rfl, hbx⟩
              refine hK.out _ _ (Below.then hHeld hbx hHeld.size) (fun hHeld => ?_)
              clear hK K
              refine' wpAnyH_take (i := 11) (v := _) rfl (by kernel_rfl) (by kernel_rfl) (by kernel_rfl) (fun _ _ _ h => h) (Or.inl ⟨by rfl, ?hy150033⟩) hHeld ?hn150033
              case hy150033 => (intro wz hSw; (try dsimp only at hSw); go_simp; first | done | with_reducible rfl)
              try simp only [List.getElem_toArray, List.getElem_cons_zero, List.getElem_cons_succ, Act.put, List.setIfInBounds_toArray, List.set_cons_zero, List.set_cons_succ]
              refine wpAnyH_done (by kernel_rfl) ?_ _
              have B10 : Hid (Below y7.heap.size y7 x10) := hHeld
              replace g40 := cell_later hHeld g40
              replace g41 := cell_later hHeld g41
              replace g70 := cell_later hHeld g70
              replace g71 := cell_later hHeld g71
              clear hHeld q0 q1 u0 u1 p0q p0z
              go_wp2_with fail
              go_at_call 27; refine Calls.mono (CO.out _ B10.out) ?_
              rintro e x11 ⟨rfl, hb11⟩
              have B11 : Hid (Below y7.heap.size y7 x11) := Below.then B10.out hb11 B10.out.size
              replace g70 := cell_later hb11 g70
              replace g71 := cell_later hb11 g71
              clear hb11 g40 g41
              cases fl
              all_goals
                go_wp2_with fail
                go_at_call 27; refine Calls.mono (CW.out _ B11.out) ?_
                rintro e x12 ⟨rfl, hb12⟩
                have HBF : Hid (Below wo.heap.size wo x12) := Below.then HB2.out (Below.then HA7.out (Below.then B11.out hb12 B11.out.size) zq7) HB2.out.size
                clear hb12 g70 g71
                go_wp2
                exact ⟨⟨u + 1, by omega, by simp, HBF.out⟩, by simp [intOf]; omega⟩
            · have : u = ls.length := by omega
              subst this
              have HBF : Hid (Below w5.heap.size w5 wq) := Below.then HB.out hB2 HB.out.size
              clear hB2
              go_wp2
              exact ⟨⟨v + 1, by omega, by simp, HBF.out⟩, by simp [intOf]; omega⟩
        · have hie : v = ls.length := by omega
          subst hie
          have HBF : Hid (Below w1.heap.size w1 wr) := Below.then B_w5.out HB.out B_w5.out.size
          go_wp2
          exact bodyPost_ret (v := .bool true) (by simp [results, Tryd.results8, go_sem]) rfl ⟨rfl, HB1.out.trans (HBF.out.mono HB1.out.size)⟩
  · refine wp_region_held (S := (fun wz => Below w2.heap.size w2 wz)) (by kernel_rfl) ?_
    change wpAnyH _ _ _ _ _ _ _ _ (World.drew _)
    have hHeld := (show Below w2.heap.size w2 (World.drew w2) from (Below.refl _ _).drew)
    refine' wpAnyH_take (i := 0) (v := (.agg #[.slice la ls.length lc, .slice sa l.length sc])) rfl (by kernel_rfl) (by kernel_rfl) (by kernel_rfl) (fun _ _ _ h => h) (Or.inl ⟨by rfl, ?hy150012⟩) hHeld ?hn150012
    case hy150012 => (intro wz hSw; have j0 := cell_later hSw p0; have j1 := cell_later hSw p1; go_simp)
    try simp only [List.getElem_toArray, List.getElem_cons_zero, List.getElem_cons_succ, Act.put, List.setIfInBounds_toArray, List.set_cons_zero, List.set_cons_succ]
    refine' wpAnyH_take (i := 2) (v := (.agg #[.slice la ls.length lc, .slice sa l.length sc])) rfl (by kernel_rfl) (by kernel_rfl) (by kernel_rfl) (fun _ _ _ h => h) (Or.inl ⟨by rfl, ?hy150013⟩) hHeld ?hn150013
    case hy150013 => (intro wz hSw; have j0 := cell_later hSw p0; have j1 := cell_later hSw p1; go_simp)
    try simp only [List.getElem_toArray, List.getElem_cons_zero, List.getElem_cons_succ, Act.put, List.setIfInBounds_toArray, List.set_cons_zero, List.set_cons_succ]
    refine wpAnyH_ready (rs := [1]) (by kernel_rfl) (by simp) ?_
    refine AllReadyH.cons rfl (fun K hK => ?_) AllReadyH.nil
    go_simp
    refine Calls.mono (HT.out _ (Below.then B_w2.out hHeld B_w2.out.size)) ?_; rintro e' x3 ⟨rfl, hbx⟩
    refine hK.out _ _ (Below.then hHeld hbx hHeld.size) (fun hHeld => ?_)
    clear hK K
    refine wpAnyH_ready (rs := [3]) (by kernel_rfl) (by simp) ?_
    refine AllReadyH.cons rfl (fun K hK => ?_) AllReadyH.nil
    go_simp
    refine Calls.mono (HS.out _ (Below.then B_w2.out hHeld B_w2.out.size)) ?_; rintro e' x4 ⟨rfl, hbx⟩
    refine hK.out _ _ (Below.then hHeld hbx hHeld.size) (fun hHeld => ?_)
    clear hK K
    refine' wpAnyH_take (i := 4) (v := _) rfl (by kernel_rfl) (by kernel_rfl) (by kernel_rfl) (fun _ _ _ h => h) (Or.inl ⟨by rfl, ?hy150014⟩) hHeld ?hn150014
    case hy150014 => (intro wz hSw; (try dsimp only at hSw); go_simp; first | done | with_reducible rfl)
    try simp only [List.getElem_toArray, List.getElem_cons_zero, List.getElem_cons_succ, Act.put, List.setIfInBounds_toArray, List.set_cons_zero, List.set_cons_succ]
    refine' wpAnyH_take (i := 5) (v := _) rfl (by kernel_rfl) (by kernel_rfl) (by kernel_rfl) (fun _ _ _ h => h) (Or.inl ⟨by rfl, ?hy150015⟩) hHeld ?hn150015
    case hy150015 => (intro wz hSw; (try dsimp only at hSw); go_simp; first | done | with_reducible rfl)
    try simp only [List.getElem_toArray, List.getElem_cons_zero, List.getElem_cons_succ, Act.put, List.setIfInBounds_toArray, List.set_cons_zero, List.set_cons_succ]
    refine' wpAnyH_take (i := 6) (v := (.agg #[.slice la ls.length lc, .slice sa l.length sc])) rfl (by kernel_rfl) (by kernel_rfl) (by kernel_rfl) (fun _ _ _ h => h) (Or.inl ⟨by rfl, ?hy150016⟩) hHeld ?hn150016
    case hy150016 => (intro wz hSw; have j0 := cell_later hSw p0; have j1 := cell_later hSw p1; go_simp)
    try simp only [List.getElem_toArray, List.getElem_cons_zero, List.getElem_cons_succ, Act.put, List.setIfInBounds_toArray, List.set_cons_zero, List.set_cons_succ]
    refine wpAnyH_ready (rs := [7]) (by kernel_rfl) (by simp) ?_
    refine AllReadyH.cons rfl (fun K hK => ?_) AllReadyH.nil
    go_simp
    refine Calls.mono (HP.out _ (Below.then B_w2.out hHeld B_w2.out.size)) ?_; rintro e' x5 ⟨rfl, hbx⟩
    refine hK.out _ _ (Below.then hHeld hbx hHeld.size) (fun hHeld => ?_)
    clear hK K
    refine' wpAnyH_take (i := 8) (v := _) rfl (by kernel_rfl) (by kernel_rfl) (by kernel_rfl) (fun _ _ _ h => h) (Or.inl ⟨by rfl, ?hy150017⟩) hHeld ?hn150017
    case hy150017 => (intro wz hSw; (try dsimp only at hSw); go_simp; first | done | with_reducible rfl)
    try simp only [List.getElem_toArray, List.getElem_cons_zero, List.getElem_cons_succ, Act.put, List.setIfInBounds_toArray, List.set_cons_zero, List.set_cons_succ]
    refine' wpAnyH_take (i := 9) (v := _) rfl (by kernel_rfl) (by kernel_rfl) (by kernel_rfl) (fun _ _ _ h => h) (Or.inl ⟨by rfl, ?hy150018⟩) hHeld ?hn150018
    case hy150018 => (intro wz hSw; (try dsimp only at hSw); go_simp; first | done | with_reducible rfl)
    try simp only [List.getElem_toArray, List.getElem_cons_zero, List.getElem_cons_succ, Act.put, List.setIfInBounds_toArray, List.set_cons_zero, List.set_cons_succ]
    refine wpAnyH_done (by kernel_rfl) ?_ _
    have hb_w5 := hHeld
    have w5e : ∃ x, x = x5 := ⟨_, rfl⟩
    obtain ⟨w5, rfl⟩ := w5e
    have B_w5 : Hid (Below w1.heap.size w1 w5) := Below.then B_w2.out hb_w5 B_w2.out.size
    have G_w5 : Hid (C2 w5 w1.heap.size (.slice la ls.length lc) (.slice sa l.length sc)) := G_w2.out.same (hb_w5.block _ (World.block_lt_of_cell? _ _ G_w2.out.1.1))
    clear hb_w5
    try clear p0 p1
    obtain ⟨⟨p0, p1⟩, -⟩ := id G_w5.out
    clear hHeld
    cases pb
    · go_wp2_with fail
      refine wp_region_held (S := (fun wz => Below w5.heap.size w5 wz)) (by kernel_rfl) ?_
      change wpAnyH _ _ _ _ _ _ _ _ (World.drew _)
      have hHeld := (show Below w5.heap.size w5 (World.drew w5) from (Below.refl _ _).drew)
      refine' wpAnyH_take (i := 0) (v := (.agg #[.slice la ls.length lc, .slice sa l.length sc])) rfl (by kernel_rfl) (by kernel_rfl) (by kernel_rfl) (fun _ _ _ h => h) (Or.inl ⟨by rfl, ?hy150019⟩) hHeld ?hn150019
      case hy150019 => (intro wz hSw; have j0 := cell_later hSw p0; have j1 := cell_later hSw p1; go_simp)
      try simp only [List.getElem_toArray, List.getElem_cons_zero, List.getElem_cons_succ, Act.put, List.setIfInBounds_toArray, List.set_cons_zero, List.set_cons_succ]
      refine' wpAnyH_take (i := 2) (v := (.agg #[.slice la ls.length lc, .slice sa l.length sc])) rfl (by kernel_rfl) (by kernel_rfl) (by kernel_rfl) (fun _ _ _ h => h) (Or.inl ⟨by rfl, ?hy150020⟩) hHeld ?hn150020
      case hy150020 => (intro wz hSw; have j0 := cell_later hSw p0; have j1 := cell_later hSw p1; go_simp)
      try simp only [List.getElem_toArray, List.getElem_cons_zero, List.getElem_cons_succ, Act.put, List.setIfInBounds_toArray, List.set_cons_zero, List.set_cons_succ]
      refine wpAnyH_ready (rs := [1]) (by kernel_rfl) (by simp) ?_
      refine AllReadyH.cons rfl (fun K hK => ?_) AllReadyH.nil
      go_simp
      refine Calls.mono (HT.out _ (Below.then B_w5.out hHeld B_w5.out.size)) ?_; rintro e' x6 ⟨rfl, hbx⟩
      refine hK.out _ _ (Below.then hHeld hbx hHeld.size) (fun hHeld => ?_)
      clear hK K
      refine wpAnyH_ready (rs := [3]) (by kernel_rfl) (by simp) ?_
      refine AllReadyH.cons rfl (fun K hK => ?_) AllReadyH.nil
      go_simp
      refine Calls.mono (HS.out _ (Below.then B_w5.out hHeld B_w5.out.size)) ?_; rintro e' x7 ⟨rfl, hbx⟩
      refine hK.out _ _ (Below.then hHeld hbx hHeld.size) (fun hHeld => ?_)
      clear hK K
      refine' wpAnyH_take (i := 4) (v := _) rfl (by kernel_rfl) (by kernel_rfl) (by kernel_rfl) (fun _ _ _ h => h) (Or.inl ⟨by rfl, ?hy150021⟩) hHeld ?hn150021
      case hy150021 => (intro wz hSw; (try dsimp only at hSw); go_simp; first | done | with_reducible rfl)
      try simp only [List.getElem_toArray, List.getElem_cons_zero, List.getElem_cons_succ, Act.put, List.setIfInBounds_toArray, List.set_cons_zero, List.set_cons_succ]
      refine' wpAnyH_take (i := 5) (v := _) rfl (by kernel_rfl) (by kernel_rfl) (by kernel_rfl) (fun _ _ _ h => h) (Or.inl ⟨by rfl, ?hy150022⟩) hHeld ?hn150022
      case hy150022 => (intro wz hSw; (try dsimp only at hSw); go_simp; first | done | with_reducible rfl)
      try simp only [List.getElem_toArray, List.getElem_cons_zero, List.getElem_cons_succ, Act.put, List.setIfInBounds_toArray, List.set_cons_zero, List.set_cons_succ]
      refine wpAnyH_done (by kernel_rfl) ?_ _
      have hb_w7 := hHeld
      have w7e : ∃ x, x = x7 := ⟨_, rfl⟩
      obtain ⟨w7, rfl⟩ := w7e
      have B_w7 : Hid (Below w1.heap.size w1 w7) := Below.then B_w5.out hb_w7 B_w5.out.size
      have G_w7 : Hid (C2 w7 w1.heap.size (.slice la ls.length lc) (.slice sa l.length sc)) := G_w5.out.same (hb_w7.block _ (World.block_lt_of_cell? _ _ G_w5.out.1.1))
      clear hb_w7
      try clear p0 p1
      obtain ⟨⟨p0, p1⟩, -⟩ := id G_w7.out
      go_wp2
      go_ret
      exact ⟨rfl, HB1.out.trans (B_w7.out.mono HB1.out.size)⟩
    · have hn8 : (ls.length : Int) ≤ 8 := by omega
      have hlab := progB_labs HPB.out
      have hn4 := progB_len HPB.out
      try simp only [Bool.not_true, Bool.not_false]
      go_wp2
      go_loopw [4] (fun j wr => ∃ (v : Nat), v ≤ ls.length ∧ j = .int .i64 v ∧ Below w5.heap.size w5 wr) (fun j _ => ls.length - (intOf j).toNat)
      case atStart => exact ⟨0, by omega, rfl, Below.refl _ _⟩
      case round =>
        obtain ⟨v, hv, rfl, hB⟩ := hrel
        have HB : Hid _ := hB
        have p0' := cell_later hB p0
        have i0' : (0 : Int) ≤ (v : Int) := by omega
        clear hB
        by_cases hlt : v < ls.length
        · have i1' : (v : Int) < (ls.length : Int) := by omega
          obtain ⟨wo, rfl⟩ : ∃ x, x = wr := ⟨_, rfl⟩
          have HWR : Hid (Below wo.heap.size wo wo) := Below.refl _ _
          go_wp2
          go_loopw [5] (fun j wq => ∃ (u : Nat), u ≤ ls.length ∧ j = .int .i64 u ∧ Below wo.heap.size wo wq) (fun j _ => ls.length - (intOf j).toNat)
          case atStart => exact ⟨0, by omega, rfl, HWR.out⟩
          case round =>
            obtain ⟨wq, rfl⟩ : ∃ x, x = wr := ⟨_, rfl⟩
            obtain ⟨u, hu, rfl, hB2⟩ := hrel
            have HB2 : Hid _ := hB2
            have p0q := cell_later hB2 p0'
            have h0' : (0 : Int) ≤ (u : Int) := by omega
            by_cases hlt3 : u < ls.length
            · have h1' : (u : Int) < (ls.length : Int) := by omega
              have BQ : Below w1.heap.size w1 wq := Below.then B_w5.out (Below.then HB.out hB2 HB.out.size) B_w5.out.size
              obtain ⟨lb, lf, hla, q0, q1⟩ := (HLR.out _ BQ).1.at i0' i1'
              subst hla
              obtain ⟨lb', lf', hla', u0, u1⟩ := (HLR.out _ BQ).1.at h0' h1'
              cases hla'
              simp only [Int.toNat_natCast] at q0 q1 u0 u1
              obtain ⟨y1, hy1⟩ : ∃ y, y = wq.alloc (.cells #[.int .i64 1, .int .i64 (v : Int), .int .i64 2, .int .i64 (u : Int), .int .i64 0, .int .i64 0, .slice none 0 0, .slice none 0 0] 43) := ⟨_, rfl⟩
              have Z1 : y1.heap.size = wq.heap.size + 1 := by rw [hy1]; simp
              have A1 : Below wq.heap.size wq y1 := by rw [hy1]; exact (Below.refl _ _).alloc (Nat.le_refl _) _
              obtain ⟨y2, hy2⟩ : ∃ y, y = y1.alloc (.cells #[.int .i64 1, .int .i64 (v : Int), .int .i64 1, .int .i64 0, .int .i64 0, .int .i64 0, .slice none 0 0, .slice none 0 0] 43) := ⟨_, rfl⟩
              have Z2 : y2.heap.size = wq.heap.size + 2 := by rw [hy2]; simp [Z1]
              have A2 : Below y1.heap.size y1 y2 := by rw [hy2]; exact (Below.refl _ _).alloc (Nat.le_refl _) _
              have N2 : C8 y2 (wq.heap.size + 1) (.int .i64 1) (.int .i64 (v : Int)) (.int .i64 1) (.int .i64 0) (.int .i64 0) (.int .i64 0) (.slice none 0 0) (.slice none 0 0) := by have h := C8.new y1 (.int .i64 1) (.int .i64 (v : Int)) (.int .i64 1) (.int .i64 0) (.int .i64 0) (.int .i64 0) (.slice none 0 0) (.slice none 0 0) 43; rw [← hy2, Z1] at h; exact h
              obtain ⟨y3, hy3⟩ : ∃ y, y = y2.alloc (.cells #[.int .i64 1, .int .i64 (v : Int), .int .i64 2, .int .i64 (u : Int), .int .i64 0, .int .i64 0, .slice none 0 0, .slice none 0 0] 43) := ⟨_, rfl⟩
              have Z3 : y3.heap.size = wq.heap.size + 3 := by rw [hy3]; simp [Z2]
              have A3 : Below y2.heap.size y2 y3 := by rw [hy3]; exact (Below.refl _ _).alloc (Nat.le_refl _) _
              have S3 : StepAt y3 (wq.heap.size + 2) 0 ⟨1, (v : Int), 2, (u : Int), 0, 0⟩ (.slice none 0 0) (.slice none 0 0) := by have h := (C8.new y2 (.int .i64 1) (.int .i64 (v : Int)) (.int .i64 2) (.int .i64 (u : Int)) (.int .i64 0) (.int .i64 0) (.slice none 0 0) (.slice none 0 0) 43).1; rw [← hy3, Z2] at h; exact h
              obtain ⟨y4, hy4⟩ : ∃ y, y = y3.alloc (.cells #[.slice (some ⟨lb, lf, none⟩) ls.length lc, .slice (some ⟨wq.heap.size + 2, 0, none⟩) 1 1] 26) := ⟨_, rfl⟩
              have Z4 : y4.heap.size = wq.heap.size + 4 := by rw [hy4]; simp [Z3]
              have A4 : Below y3.heap.size y3 y4 := by rw [hy4]; exact (Below.refl _ _).alloc (Nat.le_refl _) _
              have G4 : C2 y4 (wq.heap.size + 3) (.slice (some ⟨lb, lf, none⟩) ls.length lc) (.slice (some ⟨wq.heap.size + 2, 0, none⟩) 1 1) := by have h := C2.new y3 (.slice (some ⟨lb, lf, none⟩) ls.length lc) (.slice (some ⟨wq.heap.size + 2, 0, none⟩) 1 1) 26; rw [← hy4, Z3] at h; exact h
              have A04 : Below wq.heap.size wq y4 := Below.then A1 (Below.then A2 (Below.then A3 A4 A3.size) A2.size) A1.size
              have p04 := cell_later A04 p0q
              obtain ⟨⟨n0, n1, n2, n3, n4, n5, n6, n7⟩, -⟩ := C8.below (C8.below N2 A3) A4
              rw [hy4, hy3, hy2, hy1] at p04 n0 n1 n2 n3 n4 n5 n6 n7
              obtain ⟨y5, hy5⟩ : ∃ y, y = y4.alloc (.cells #[.int .i64 1, .int .i64 (v : Int), .int .i64 1, .int .i64 0, .int .i64 0, .int .i64 0, .slice none 0 0, .slice none 0 0] 43) := ⟨_, rfl⟩
              have Z5 : y5.heap.size = wq.heap.size + 5 := by rw [hy5]; simp [Z4]
              have A5 : Below y4.heap.size y4 y5 := by rw [hy5]; exact (Below.refl _ _).alloc (Nat.le_refl _) _
              have S5 : StepAt y5 (wq.heap.size + 4) 0 ⟨1, (v : Int), 1, 0, 0, 0⟩ (.slice none 0 0) (.slice none 0 0) := by have h := (C8.new y4 (.int .i64 1) (.int .i64 (v : Int)) (.int .i64 1) (.int .i64 0) (.int .i64 0) (.int .i64 0) (.slice none 0 0) (.slice none 0 0) 43).1; rw [← hy5, Z4] at h; exact h
              obtain ⟨y6, hy6⟩ : ∃ y, y = y5.alloc (.cells #[.int .i64 2, .int .i64 (u : Int), .int .i64 0, .int .i64 0, .int .i64 0, .int .i64 0, .slice none 0 0, .slice (some ⟨wq.heap.size + 4, 0, none⟩) 1 1] 43) := ⟨_, rfl⟩
              have Z6 : y6.heap.size = wq.heap.size + 6 := by rw [hy6]; simp [Z5]
              have A6 : Below y5.heap.size y5 y6 := by rw [hy6]; exact (Below.refl _ _).alloc (Nat.le_refl _) _
              have S6 : StepAt y6 (wq.heap.size + 5) 0 ⟨2, (u : Int), 0, 0, 0, 0⟩ (.slice none 0 0) (.slice (some ⟨wq.heap.size + 4, 0, none⟩) 1 1) := by have h := (C8.new y5 (.int .i64 2) (.int .i64 (u : Int)) (.int .i64 0) (.int .i64 0) (.int .i64 0) (.int .i64 0) (.slice none 0 0) (.slice (some ⟨wq.heap.size + 4, 0, none⟩) 1 1) 43).1; rw [← hy6, Z5] at h; exact h
              obtain ⟨y7, hy7⟩ : ∃ y, y = y6.alloc (.cells #[.slice (some ⟨lb, lf, none⟩) ls.length lc, .slice (some ⟨wq.heap.size + 5, 0, none⟩) 1 1] 26) := ⟨_, rfl⟩
              have Z7 : y7.heap.size = wq.heap.size + 7 := by rw [hy7]; simp [Z6]
              have A7 : Below y6.heap.size y6 y7 := by rw [hy7]; exact (Below.refl _ _).alloc (Nat.le_refl _) _
              have G7 : C2 y7 (wq.heap.size + 6) (.slice (some ⟨lb, lf, none⟩) ls.length lc) (.slice (some ⟨wq.heap.size + 5, 0, none⟩) 1 1) := by have h := C2.new y6 (.slice (some ⟨lb, lf, none⟩) ls.length lc) (.slice (some ⟨wq.heap.size + 5, 0, none⟩) 1 1) 26; rw [← hy7, Z6] at h; exact h
              have A67 : Below y6.heap.size y6 y7 := A7
              have A57 : Below y5.heap.size y5 y7 := Below.then A6 A67 A6.size
              have A47 : Below y4.heap.size y4 y7 := Below.then A5 A57 A5.size
              have A37 : Below y3.heap.size y3 y7 := Below.then A4 A47 A4.size
              have A27 : Below y2.heap.size y2 y7 := Below.then A3 A37 A3.size
              have A17 : Below y1.heap.size y1 y7 := Below.then A2 A27 A2.size
              have A07 : Below wq.heap.size wq y7 := Below.then A1 A17 A1.size
              have HWY : Hid ((((((((wq.alloc (.cells #[.int .i64 1, .int .i64 (v : Int), .int .i64 2, .int .i64 (u : Int), .int .i64 0, .int .i64 0, .slice none 0 0, .slice none 0 0] 43)).alloc (.cells #[.int .i64 1, .int .i64 (v : Int), .int .i64 1, .int .i64 0, .int .i64 0, .int .i64 0, .slice none 0 0, .slice none 0 0] 43)).alloc (.cells #[.int .i64 1, .int .i64 (v : Int), .int .i64 2, .int .i64 (u : Int), .int .i64 0, .int .i64 0, .slice none 0 0, .slice none 0 0] 43)).alloc (.cells #[.slice (some ⟨lb, lf, none⟩) ls.length lc, .slice (some ⟨wq.heap.size + 2, 0, none⟩) 1 1] 26)).alloc (.cells #[.int .i64 1, .int .i64 (v : Int), .int .i64 1, .int .i64 0, .int .i64 0, .int .i64 0, .slice none 0 0, .slice none 0 0] 43)).alloc (.cells #[.int .i64 2, .int .i64 (u : Int), .int .i64 0, .int .i64 0, .int .i64 0, .int .i64 0, .slice none 0 0, .slice (some ⟨wq.heap.size + 4, 0, none⟩) 1 1] 43)).alloc (.cells #[.slice (some ⟨lb, lf, none⟩) ls.length lc, .slice (some ⟨wq.heap.size + 5, 0, none⟩) 1 1] 26)) = y7) := (show (((((((wq.alloc (.cells #[.int .i64 1, .int .i64 (v : Int), .int .i64 2, .int .i64 (u : Int), .int .i64 0, .int .i64 0, .slice none 0 0, .slice none 0 0] 43)).alloc (.cells #[.int .i64 1, .int .i64 (v : Int), .int .i64 1, .int .i64 0, .int .i64 0, .int .i64 0, .slice none 0 0, .slice none 0 0] 43)).alloc (.cells #[.int .i64 1, .int .i64 (v : Int), .int .i64 2, .int .i64 (u : Int), .int .i64 0, .int .i64 0, .slice none 0 0, .slice none 0 0] 43)).alloc (.cells #[.slice (some ⟨lb, lf, none⟩) ls.length lc, .slice (some ⟨wq.heap.size + 2, 0, none⟩) 1 1] 26)).alloc (.cells #[.int .i64 1, .int .i64 (v : Int), .int .i64 1, .int .i64 0, .int .i64 0, .int .i64 0, .slice none 0 0, .slice none 0 0] 43)).alloc (.cells #[.int .i64 2, .int .i64 (u : Int), .int .i64 0, .int .i64 0, .int .i64 0, .int .i64 0, .slice none 0 0, .slice (some ⟨wq.heap.size + 4, 0, none⟩) 1 1] 43)).alloc (.cells #[.slice (some ⟨lb, lf, none⟩) ls.length lc, .slice (some ⟨wq.heap.size + 5, 0, none⟩) 1 1] 26)) = y7 by rw [hy7, hy6, hy5, hy4, hy3, hy2, hy1])
              have B7 : Hid (Below w1.heap.size w1 y7) := Below.then BQ A07 BQ.size
              have CO0 := fun wz hb => typeOk_any (w := wz) (HLR.out wz (Below.then B7.out hb B7.out.size)).1 (rep_leaf (S3.on (fun a x k => cell_later hb (cell_later A37 k)))) (HLR.out wz (Below.then B7.out hb B7.out.size)).2.2.1 (HLR.out wz (Below.then B7.out hb B7.out.size)).2.2.2
              have CW0 := fun wz hb => typeOk_any (w := wz) (HLR.out wz (Below.then B7.out hb B7.out.size)).1 (rep_else (S6.on (fun a x k => cell_later hb (cell_later A67 k))) (rep_leaf (S5.on (fun a x k => cell_later hb (cell_later A57 k))))) (HLR.out wz (Below.then B7.out hb B7.out.size)).2.2.1 (HLR.out wz (Below.then B7.out hb B7.out.size)).2.2.2
              rw [one_fine hlab hn4 i0' i1' h0' h1'] at CO0
              rw [two_fine hlab hn4 i0' i1' h0' h1'] at CW0
              have CF : Hid _ := fun wz => flows_ok (lab_ok hlab (u : Int)) (lab_ok hlab (v : Int)) wz
              have HA7 : Hid _ := A07
              have p0z := cell_later A07 p0q
              replace q0 := cell_later A07 q0
              replace q1 := cell_later A07 q1
              replace u0 := cell_later A07 u0
              replace u1 := cell_later A07 u1
              have g40 := cell_later A47 G4.1.1
              have g41 := cell_later A47 G4.1.2
              obtain ⟨⟨g70, g71⟩, -⟩ := G7
              obtain ⟨fl, hfl⟩ : ∃ b, flL (lab ls (u : Int)) (lab ls (v : Int)) = b := ⟨_, rfl⟩
              rw [hfl] at CO0 CW0 CF
              have CO : Hid _ := CO0
              have CW : Hid _ := CW0
              have zq7 : wq.heap.size ≤ y7.heap.size := A07.size
              generalize lab ls (u : Int) = lu at *
              generalize lab ls (v : Int) = lv2 at *
              clear hy1 hy2 hy3 hy4 hy5 hy6 hy7 Z1 Z2 Z3 Z4 Z5 Z6 Z7 A1 A2 A3 A4 A5 A6 A7 A67 A57 A47 A37 A27 A17 A07 S3 S5 S6 G4 N2 A04 CO0 CW0 hfl hB2 BQ y1 y2 y3 y4 y5 y6
              go_wp2_with fail
              rw [HWY.out]
              clear HWY p04 n0 n1 n2 n3 n4 n5 n6 n7
              refine wp_region_held (S := (fun wz => Below y7.heap.size y7 wz)) (by kernel_rfl) ?_
              change wpAnyH _ _ _ _ _ _ _ _ (World.drew _)
              have hHeld := (show Below y7.heap.size y7 (World.drew y7) from (Below.refl _ _).drew)
              refine' wpAnyH_take (i := 0) (v := _) rfl (by kernel_rfl) (by kernel_rfl) (by kernel_rfl) (fun _ _ _ h => h) (Or.inl ⟨by rfl, ?hy150034⟩) hHeld ?hn150034
              case hy150034 => (intro wz hSw; (try dsimp only at hSw); go_simp; first | done | with_reducible rfl)
              try simp only [List.getElem_toArray, List.getElem_cons_zero, List.getElem_cons_succ, Act.put, List.setIfInBounds_toArray, List.set_cons_zero, List.set_cons_succ]
              refine' wpAnyH_take (i := 1) (v := (.slice (some ⟨lb, lf, none⟩) ls.length lc)) rfl (by kernel_rfl) (by kernel_rfl) (by kernel_rfl) (fun _ _ _ h => h) (Or.inl ⟨by rfl, ?hy150035⟩) hHeld ?hn150035
              case hy150035 => (intro wz hSw; have j0 := cell_later hSw p0z; go_simp)
              try simp only [List.getElem_toArray, List.getElem_cons_zero, List.getElem_cons_succ, Act.put, List.setIfInBounds_toArray, List.set_cons_zero, List.set_cons_succ]
              refine' wpAnyH_take (i := 2) (v := _) rfl (by kernel_rfl) (by kernel_rfl) (by kernel_rfl) (fun _ _ _ h => h) (Or.inl ⟨by rfl, ?hy150036⟩) hHeld ?hn150036
              case hy150036 => (intro wz hSw; (try dsimp only at hSw); go_simp; first | done | with_reducible rfl)
              try simp only [List.getElem_toArray, List.getElem_cons_zero, List.getElem_cons_succ, Act.put, List.setIfInBounds_toArray, List.set_cons_zero, List.set_cons_succ]
              refine' wpAnyH_take (i := 3) (v := (.pointer (some ⟨lb, lf + u * 2, none⟩))) rfl (by kernel_rfl) (by kernel_rfl) (by kernel_rfl) (fun _ _ _ h => h) (Or.inl ⟨by rfl, ?hy150037⟩) hHeld ?hn150037
              case hy150037 => (intro wz hSw; go_simp; first | done | (simp; done))
              try simp only [List.getElem_toArray, List.getElem_cons_zero, List.getElem_cons_succ, Act.put, List.setIfInBounds_toArray, List.set_cons_zero, List.set_cons_succ]
              refine' wpAnyH_take (i := 4) (v := (.agg #[.int .i64 lu.1, .int .i64 lu.2])) rfl (by kernel_rfl) (by kernel_rfl) (by kernel_rfl) (fun _ _ _ h => h) (Or.inl ⟨by rfl, ?hy150038⟩) hHeld ?hn150038
              case hy150038 => (intro wz hSw; have j0 := cell_later hSw u0; have j1 := cell_later hSw u1; go_simp)
              try simp only [List.getElem_toArray, List.getElem_cons_zero, List.getElem_cons_succ, Act.put, List.setIfInBounds_toArray, List.set_cons_zero, List.set_cons_succ]
              refine' wpAnyH_take (i := 5) (v := _) rfl (by kernel_rfl) (by kernel_rfl) (by kernel_rfl) (fun _ _ _ h => h) (Or.inl ⟨by rfl, ?hy150039⟩) hHeld ?hn150039
              case hy150039 => (intro wz hSw; (try dsimp only at hSw); go_simp; first | done | with_reducible rfl)
              try simp only [List.getElem_toArray, List.getElem_cons_zero, List.getElem_cons_succ, Act.put, List.setIfInBounds_toArray, List.set_cons_zero, List.set_cons_succ]
              refine' wpAnyH_take (i := 6) (v := (.slice (some ⟨lb, lf, none⟩) ls.length lc)) rfl (by kernel_rfl) (by kernel_rfl) (by kernel_rfl) (fun _ _ _ h => h) (Or.inl ⟨by rfl, ?hy150040⟩) hHeld ?hn150040
              case hy150040 => (intro wz hSw; have j0 := cell_later hSw p0z; go_simp)
              try simp only [List.getElem_toArray, List.getElem_cons_zero, List.getElem_cons_succ, Act.put, List.setIfInBounds_toArray, List.set_cons_zero, List.set_cons_succ]
              refine' wpAnyH_take (i := 7) (v := _) rfl (by kernel_rfl) (by kernel_rfl) (by kernel_rfl) (fun _ _ _ h => h) (Or.inl ⟨by rfl, ?hy150041⟩) hHeld ?hn150041
              case hy150041 => (intro wz hSw; (try dsimp only at hSw); go_simp; first | done | with_reducible rfl)
              try simp only [List.getElem_toArray, List.getElem_cons_zero, List.getElem_cons_succ, Act.put, List.setIfInBounds_toArray, List.set_cons_zero, List.set_cons_succ]
              refine' wpAnyH_take (i := 8) (v := (.pointer (some ⟨lb, lf + v * 2, none⟩))) rfl (by kernel_rfl) (by kernel_rfl) (by kernel_rfl) (fun _ _ _ h => h) (Or.inl ⟨by rfl, ?hy150042⟩) hHeld ?hn150042
              case hy150042 => (intro wz hSw; go_simp; first | done | (simp; done))
              try simp only [List.getElem_toArray, List.getElem_cons_zero, List.getElem_cons_succ, Act.put, List.setIfInBounds_toArray, List.set_cons_zero, List.set_cons_succ]
              refine' wpAnyH_take (i := 9) (v := (.agg #[.int .i64 lv2.1, .int .i64 lv2.2])) rfl (by kernel_rfl) (by kernel_rfl) (by kernel_rfl) (fun _ _ _ h => h) (Or.inl ⟨by rfl, ?hy150043⟩) hHeld ?hn150043
              case hy150043 => (intro wz hSw; have j0 := cell_later hSw q0; have j1 := cell_later hSw q1; go_simp)
              try simp only [List.getElem_toArray, List.getElem_cons_zero, List.getElem_cons_succ, Act.put, List.setIfInBounds_toArray, List.set_cons_zero, List.set_cons_succ]
              refine wpAnyH_ready (rs := [10]) (by kernel_rfl) (by simp) ?_
              refine AllReadyH.cons rfl (fun K hK => ?_) AllReadyH.nil
              go_simp
              refine Calls.mono (CF.out _) ?_; rintro e' x10 ⟨rfl, hbx⟩
              refine hK.out _ _ (Below.then hHeld hbx hHeld.size) (fun hHeld => ?_)
              clear hK K
              refine' wpAnyH_take (i := 11) (v := _) rfl (by kernel_rfl) (by kernel_rfl) (by kernel_rfl) (fun _ _ _ h => h) (Or.inl ⟨by rfl, ?hy150044⟩) hHeld ?hn150044
              case hy150044 => (intro wz hSw; (try dsimp only at hSw); go_simp; first | done | with_reducible rfl)
              try simp only [List.getElem_toArray, List.getElem_cons_zero, List.getElem_cons_succ, Act.put, List.setIfInBounds_toArray, List.set_cons_zero, List.set_cons_succ]
              refine wpAnyH_done (by kernel_rfl) ?_ _
              have B10 : Hid (Below y7.heap.size y7 x10) := hHeld
              replace g40 := cell_later hHeld g40
              replace g41 := cell_later hHeld g41
              replace g70 := cell_later hHeld g70
              replace g71 := cell_later hHeld g71
              clear hHeld q0 q1 u0 u1 p0q p0z
              go_wp2_with fail
              go_at_call 27; refine Calls.mono (CO.out _ B10.out) ?_
              rintro e x11 ⟨rfl, hb11⟩
              have B11 : Hid (Below y7.heap.size y7 x11) := Below.then B10.out hb11 B10.out.size
              replace g70 := cell_later hb11 g70
              replace g71 := cell_later hb11 g71
              clear hb11 g40 g41
              cases fl
              all_goals
                go_wp2_with fail
                go_at_call 27; refine Calls.mono (CW.out _ B11.out) ?_
                rintro e x12 ⟨rfl, hb12⟩
                have HBF : Hid (Below wo.heap.size wo x12) := Below.then HB2.out (Below.then HA7.out (Below.then B11.out hb12 B11.out.size) zq7) HB2.out.size
                clear hb12 g70 g71
                go_wp2
                exact ⟨⟨u + 1, by omega, by simp, HBF.out⟩, by simp [intOf]; omega⟩
            · have : u = ls.length := by omega
              subst this
              have HBF : Hid (Below w5.heap.size w5 wq) := Below.then HB.out hB2 HB.out.size
              clear hB2
              go_wp2
              exact ⟨⟨v + 1, by omega, by simp, HBF.out⟩, by simp [intOf]; omega⟩
        · have hie : v = ls.length := by omega
          subst hie
          have HBF : Hid (Below w1.heap.size w1 wr) := Below.then B_w5.out HB.out B_w5.out.size
          go_wp2
          exact bodyPost_ret (v := .bool true) (by simp [results, Tryd.results8, go_sem]) rfl ⟨rfl, HB1.out.trans (HBF.out.mono HB1.out.size)⟩
end Go.Proofs.YtpmhkhajahoaaaaDoor
