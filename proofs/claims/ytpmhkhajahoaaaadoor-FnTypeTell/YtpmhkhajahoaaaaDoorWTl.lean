/- A variable may be told just to who may know it: the law, walked. -/
import Derived.Test.YtpmhkhajahoaaaaDoorTmc
import Derived.Test.YtpmhkhajahoaaaaDoorTks
import Derived.Test.YtpmhkhajahoaaaaDoorDty
namespace Go.Proofs.YtpmhkhajahoaaaaDoor
open Go.RowKit
set_option linter.unusedSimpArgs false
set_option linter.unusedVariables false
attribute [local go_sem] World.cell?_alloc_some
theorem rep_tell {w : World} {sb : Nat} {v h : Int} (hS : StepAt w sb 0 ⟨3, v, 0, 0, 0, h⟩ (.slice none 0 0) (.slice none 0 0)) : Rep w 1 (.slice (some ⟨sb, 0, none⟩) 1 1) ([(⟨3, v, 0, 0, 0, h⟩, (), ())] : List (Pay × Tr 0 × Tr 0)) :=
  ⟨_, 1, rfl, Nat.le_refl _, by unfold maxLen; omega, fun i hi => by
    match i, hi with
    | 0, _ => exact ⟨sb, 0, _, _, rfl, by simpa using hS, ⟨none, 0, rfl⟩, ⟨none, 0, rfl⟩⟩⟩
/-- A variable may be told just to who may know it. -/
theorem tell_fine {ls : List (Int × Int)} (hl : labsB ls = true) (h4 : ls.length ≤ 4) {v h : Int} (v0 : 0 ≤ v) (v1 : v < ls.length) (h0 : 0 ≤ h) (h2 : h ≤ 2) :
    (progB ls 1 ([(⟨3, v, 0, 0, 0, h⟩, (), ())] : List (Pay × Tr 0 × Tr 0)) && !(whyR ls 1 ([(⟨3, v, 0, 0, 0, h⟩, (), ())] : List (Pay × Tr 0 × Tr 0))).2) = hasB (lab ls v).1 h := by
  have hp : progB ls 1 ([(⟨3, v, 0, 0, 0, h⟩, (), ())] : List (Pay × Tr 0 × Tr 0)) = true := by
    unfold progB
    simp only [Bool.and_eq_true_iff, decide_eq_true_eq]
    refine ⟨h4, hl, ?_, by simp [cnt]⟩
    show (List.all [_] _) = true
    simp [payB, vIn, nonV, ln, stB, v0, v1, h0]
    omega
  refine Bool.eq_iff_iff.2 (Iff.trans (okR_iff hp) ?_)
  have e : prs ls 1 ([(⟨3, v, 0, 0, 0, h⟩, (), ())] : List (Pay × Tr 0 × Tr 0)) topL = [(⟨3, v, 0, 0, 0, h⟩, topL)] := by
    show List.flatMap _ [_] = _
    simp [prs]
  rw [e]
  have f : fineB ls ⟨3, v, 0, 0, 0, h⟩ topL = hasB (lab ls v).1 h := by
    have := lab_ok hl v
    simp only [fineB]
    rw [if_neg (by decide), if_pos trivial]
    show hasB (andI 7 (lab ls v).1) h = _
    rw [andI_top this.1.1 this.1.2]
  simp [f]
theorem lcHas_any (s h : Int) (w : World) (s0 : 0 ≤ s) (s7 : s ≤ 7) (h0 : 0 ≤ h) (h1 : h ≤ 2) :
    Calls Tryd.prog 25 #[.int .i64 s, .int .i64 h] w fun e w' => e = .returned (.bool (hasB s h)) ∧ w' = w := by
  rw [← has_mod s0]
  go_enter Tryd.func25, Tryd.ntmps25
  go_wp2
  go_ret
  exact ⟨rfl, rfl⟩

set_option maxHeartbeats 8000000 in
set_option maxRecDepth 20000 in
theorem fnTypeTell_walk (a0 : Option Addr) (len0 cap0 : Nat) (z0 : List Int) (w : World) (s0 s1 : Addr) (hg0 : w.cell? ⟨0, 0, none⟩ = some (.iface 152 (.pointer (some s0)))) (hg1 : w.cell? ⟨1, 0, none⟩ = some (.iface 152 (.pointer (some s1)))) (h0 : IsRow .u8 w a0 len0 cap0 z0) :
    Calls Tryd.prog 7 #[.slice a0 len0 cap0] w fun e w' => e = .returned (.bool true) ∧ Below w.heap.size w w' := by
  by_cases hl0 : (1048576 : Int) < (len0 : Int)
  · go_enter Tryd.func7, Tryd.ntmps7
    go_wp2
    go_ret
    exact ⟨rfl, Below.refl _ _⟩
  have C1 : Hid _ := drawTypeOk_any w a0 len0 cap0 z0 h0
  have HG0 : Hid _ := hg0
  have HG1 : Hid _ := hg1
  clear h0 hg0 hg1
  go_enter Tryd.func7, Tryd.ntmps7
  go_wp2_with fail
  go_at_call 26; refine Calls.mono C1.out ?_
  rintro e w1 ⟨lv, sv, ls, d, l, rfl, hLp, hRp, ll, cn, hb1⟩
  have hL := hLp.rep
  have hR := hRp.rep
  obtain ⟨la, lc, rfl, hll, hlm, -⟩ := id hL
  obtain ⟨sa, sc, hsv, hslc, hscm, -⟩ := id hR
  subst hsv
  have hR : Rep w1 (d + 1) (.slice sa l.length sc) (l : List (Pay × Tr d × Tr d)) := hR
  have hlc8 : l.length ≤ 400 := Nat.le_trans (show l.length ≤ (cnt (d + 1) (l : List (Pay × Tr d × Tr d))) from ln_le_cnt (d + 1) (l : List (Pay × Tr d × Tr d))) cn
  have A : Below w1.heap.size w1 (w1.alloc (.cells #[.slice la ls.length lc, .slice sa l.length sc] 26)) := (Below.refl _ _).alloc (Nat.le_refl _) _
  have G2 := C2.new w1 (.slice la ls.length lc) (.slice sa l.length sc) 26
  have HLR : Hid (∀ wz, Below w1.heap.size w1 wz → LRep wz (.slice la ls.length lc) ls ∧ Rep wz (d + 1) (.slice sa l.length sc) (l : List (Pay × Tr d × Tr d)) ∧ wz.cell? ⟨0, 0, none⟩ = some (.iface 152 (.pointer (some s0))) ∧ wz.cell? ⟨1, 0, none⟩ = some (.iface 152 (.pointer (some s1)))) := (show ∀ wz, _ from fun wz hb => ⟨hL.below hb, hR.below hb, cell_later hb (cell_later hb1 HG0.out), cell_later hb (cell_later hb1 HG1.out)⟩)
  have HB1 : Hid (Below w.heap.size w w1) := hb1
  obtain ⟨ok, hok⟩ : ∃ x, (progB ls (d + 1) (l : List (Pay × Tr d × Tr d)) && !(whyR ls (d + 1) (l : List (Pay × Tr d × Tr d))).2) = x := ⟨_, rfl⟩
  have HOKV : Hid _ := hok
  have HT : Hid (∀ wz, Below w1.heap.size w1 wz → Calls Tryd.prog 27 #[.agg #[.slice la ls.length lc, .slice sa l.length sc]] wz fun e w' => e = .returned (.bool ok) ∧ Below wz.heap.size wz w') := (show ∀ wz, _ from fun wz hb => by
    rw [← hok]; exact typeOk_any (HLR.out wz hb).1 (HLR.out wz hb).2.1 (HLR.out wz hb).2.2.1 (HLR.out wz hb).2.2.2)
  have HS : Hid (∀ wz, Below w1.heap.size w1 wz → Calls Tryd.prog 24 #[.agg #[.slice la ls.length lc, .slice sa l.length sc]] wz fun e w' => e = .returned (.bool ok) ∧ Below wz.heap.size wz w') := (show ∀ wz, _ from fun wz hb => by
    rw [← hok]; exact sTypeOk_any (HLR.out wz hb).1 (HLR.out wz hb).2.1 (Nat.le_trans cn (by decide)))
  obtain ⟨pb, hpb⟩ : ∃ x, progB ls (d + 1) (l : List (Pay × Tr d × Tr d)) = x := ⟨_, rfl⟩
  have HPB : Hid _ := hpb
  have HP : Hid (∀ wz, Below w1.heap.size w1 wz → Calls Tryd.prog 18 #[.agg #[.slice la ls.length lc, .slice sa l.length sc]] wz fun e w' => e = .returned (.bool pb) ∧ Below wz.heap.size wz w') := (show ∀ wz, _ from fun wz hb => by
    rw [← hpb]; exact sProgOk_any (HLR.out wz hb).1 (HLR.out wz hb).2.1 (Nat.le_trans cn (by decide)))
  generalize hw2 : w1.alloc (.cells #[.slice la ls.length lc, .slice sa l.length sc] 26) = w2 at A G2
  have HW2 : Hid _ := hw2
  have B_w2 : Hid (Below w1.heap.size w1 w2) := A
  have G_w2 : Hid (C2 w2 w1.heap.size (.slice la ls.length lc) (.slice sa l.length sc)) := G2
  clear hLp hRp hb1 C1 A G2 hw2 hL hR hok hpb
  go_wp2_with fail
  rw [HW2.out]
  clear HW2
  obtain ⟨⟨p0, p1⟩, -⟩ := id G_w2.out
  cases ok
  · refine wp_region_held (S := (fun wz => Below w2.heap.size w2 wz)) (by kernel_rfl) ?_
    change wpAnyH _ _ _ _ _ _ _ _ (World.drew _)
    have hHeld := (show Below w2.heap.size w2 (World.drew w2) from (Below.refl _ _).drew)
    refine' wpAnyH_take (i := 0) (v := (.agg #[.slice la ls.length lc, .slice sa l.length sc])) rfl (by kernel_rfl) (by kernel_rfl) (by kernel_rfl) (fun _ _ _ h => h) (Or.inl ⟨by rfl, ?hy100001⟩) hHeld ?hn100001
    case hy100001 => (intro wz hSw; have j0 := cell_later hSw p0; have j1 := cell_later hSw p1; go_simp)
    try simp only [List.getElem_toArray, List.getElem_cons_zero, List.getElem_cons_succ, Act.put, List.setIfInBounds_toArray, List.set_cons_zero, List.set_cons_succ]
    refine' wpAnyH_take (i := 2) (v := (.agg #[.slice la ls.length lc, .slice sa l.length sc])) rfl (by kernel_rfl) (by kernel_rfl) (by kernel_rfl) (fun _ _ _ h => h) (Or.inl ⟨by rfl, ?hy100002⟩) hHeld ?hn100002
    case hy100002 => (intro wz hSw; have j0 := cell_later hSw p0; have j1 := cell_later hSw p1; go_simp)
    try simp only [List.getElem_toArray, List.getElem_cons_zero, List.getElem_cons_succ, Act.put, List.setIfInBounds_toArray, List.set_cons_zero, List.set_cons_succ]
    refine wpAnyH_ready (rs := [1]) (by kernel_rfl) (by simp) ?_
    refine AllReadyH.cons rfl (fun K hK => ?_) AllReadyH.nil
    go_simp
    refine Calls.mono (HT.out _ (Below.then B_w2.out hHeld B_w2.out.size)) ?_; rintro e' x3 ⟨rfl, hbx⟩
    refine hK.out _ _ (Below.then hHeld hbx hHeld.size) (fun hHeld => ?_)
    clear hK K
    refine wpAnyH_ready (rs := [3]) (by kernel_rfl) (by simp) ?_
    refine AllReadyH.cons rfl (fun K hK => ?_) AllReadyH.nil
    go_simp
    refine Calls.mono (HS.out _ (Below.then B_w2.out hHeld B_w2.out.size)) ?_; rintro e' x4 ⟨rfl, hbx⟩
    refine hK.out _ _ (Below.then hHeld hbx hHeld.size) (fun hHeld => ?_)
    clear hK K
    refine' wpAnyH_take (i := 4) (v := _) rfl (by kernel_rfl) (by kernel_rfl) (by kernel_rfl) (fun _ _ _ h => h) (Or.inl ⟨by rfl, ?hy100003⟩) hHeld ?hn100003
    case hy100003 => (intro wz hSw; (try dsimp only at hSw); go_simp; first | done | with_reducible rfl)
    try simp only [List.getElem_toArray, List.getElem_cons_zero, List.getElem_cons_succ, Act.put, List.setIfInBounds_toArray, List.set_cons_zero, List.set_cons_succ]
    refine' wpAnyH_take (i := 5) (v := _) rfl (by kernel_rfl) (by kernel_rfl) (by kernel_rfl) (fun _ _ _ h => h) (Or.inl ⟨by rfl, ?hy100004⟩) hHeld ?hn100004
    case hy100004 => (intro wz hSw; (try dsimp only at hSw); go_simp; first | done | with_reducible rfl)
    try simp only [List.getElem_toArray, List.getElem_cons_zero, List.getElem_cons_succ, Act.put, List.setIfInBounds_toArray, List.set_cons_zero, List.set_cons_succ]
    refine' wpAnyH_take (i := 6) (v := (.agg #[.slice la ls.length lc, .slice sa l.length sc])) rfl (by kernel_rfl) (by kernel_rfl) (by kernel_rfl) (fun _ _ _ h => h) (Or.inl ⟨by rfl, ?hy100005⟩) hHeld ?hn100005
    case hy100005 => (intro wz hSw; have j0 := cell_later hSw p0; have j1 := cell_later hSw p1; go_simp)
    try simp only [List.getElem_toArray, List.getElem_cons_zero, List.getElem_cons_succ, Act.put, List.setIfInBounds_toArray, List.set_cons_zero, List.set_cons_succ]
    refine wpAnyH_ready (rs := [7]) (by kernel_rfl) (by simp) ?_
    refine AllReadyH.cons rfl (fun K hK => ?_) AllReadyH.nil
    go_simp
    refine Calls.mono (HP.out _ (Below.then B_w2.out hHeld B_w2.out.size)) ?_; rintro e' x5 ⟨rfl, hbx⟩
    refine hK.out _ _ (Below.then hHeld hbx hHeld.size) (fun hHeld => ?_)
    clear hK K
    refine' wpAnyH_take (i := 8) (v := _) rfl (by kernel_rfl) (by kernel_rfl) (by kernel_rfl) (fun _ _ _ h => h) (Or.inl ⟨by rfl, ?hy100006⟩) hHeld ?hn100006
    case hy100006 => (intro wz hSw; (try dsimp only at hSw); go_simp; first | done | with_reducible rfl)
    try simp only [List.getElem_toArray, List.getElem_cons_zero, List.getElem_cons_succ, Act.put, List.setIfInBounds_toArray, List.set_cons_zero, List.set_cons_succ]
    refine' wpAnyH_take (i := 9) (v := _) rfl (by kernel_rfl) (by kernel_rfl) (by kernel_rfl) (fun _ _ _ h => h) (Or.inl ⟨by rfl, ?hy100007⟩) hHeld ?hn100007
    case hy100007 => (intro wz hSw; (try dsimp only at hSw); go_simp; first | done | with_reducible rfl)
    try simp only [List.getElem_toArray, List.getElem_cons_zero, List.getElem_cons_succ, Act.put, List.setIfInBounds_toArray, List.set_cons_zero, List.set_cons_succ]
    refine wpAnyH_done (by kernel_rfl) ?_ _
    have hb_w5 := hHeld
    have w5e : ∃ x, x = x5 := ⟨_, rfl⟩
    obtain ⟨w5, rfl⟩ := w5e
    have B_w5 : Hid (Below w1.heap.size w1 w5) := Below.then B_w2.out hb_w5 B_w2.out.size
    have G_w5 : Hid (C2 w5 w1.heap.size (.slice la ls.length lc) (.slice sa l.length sc)) := G_w2.out.same (hb_w5.block _ (World.block_lt_of_cell? _ _ G_w2.out.1.1))
    clear hb_w5
    try clear p0 p1
    obtain ⟨⟨p0, p1⟩, -⟩ := id G_w5.out
    clear hHeld
    cases pb
    · go_wp2_with fail
      refine wp_region_held (S := (fun wz => Below w5.heap.size w5 wz)) (by kernel_rfl) ?_
      change wpAnyH _ _ _ _ _ _ _ _ (World.drew _)
      have hHeld := (show Below w5.heap.size w5 (World.drew w5) from (Below.refl _ _).drew)
      refine' wpAnyH_take (i := 0) (v := (.agg #[.slice la ls.length lc, .slice sa l.length sc])) rfl (by kernel_rfl) (by kernel_rfl) (by kernel_rfl) (fun _ _ _ h => h) (Or.inl ⟨by rfl, ?hy100008⟩) hHeld ?hn100008
      case hy100008 => (intro wz hSw; have j0 := cell_later hSw p0; have j1 := cell_later hSw p1; go_simp)
      try simp only [List.getElem_toArray, List.getElem_cons_zero, List.getElem_cons_succ, Act.put, List.setIfInBounds_toArray, List.set_cons_zero, List.set_cons_succ]
      refine' wpAnyH_take (i := 2) (v := (.agg #[.slice la ls.length lc, .slice sa l.length sc])) rfl (by kernel_rfl) (by kernel_rfl) (by kernel_rfl) (fun _ _ _ h => h) (Or.inl ⟨by rfl, ?hy100009⟩) hHeld ?hn100009
      case hy100009 => (intro wz hSw; have j0 := cell_later hSw p0; have j1 := cell_later hSw p1; go_simp)
      try simp only [List.getElem_toArray, List.getElem_cons_zero, List.getElem_cons_succ, Act.put, List.setIfInBounds_toArray, List.set_cons_zero, List.set_cons_succ]
      refine wpAnyH_ready (rs := [1]) (by kernel_rfl) (by simp) ?_
      refine AllReadyH.cons rfl (fun K hK => ?_) AllReadyH.nil
      go_simp
      refine Calls.mono (HT.out _ (Below.then B_w5.out hHeld B_w5.out.size)) ?_; rintro e' x6 ⟨rfl, hbx⟩
      refine hK.out _ _ (Below.then hHeld hbx hHeld.size) (fun hHeld => ?_)
      clear hK K
      refine wpAnyH_ready (rs := [3]) (by kernel_rfl) (by simp) ?_
      refine AllReadyH.cons rfl (fun K hK => ?_) AllReadyH.nil
      go_simp
      refine Calls.mono (HS.out _ (Below.then B_w5.out hHeld B_w5.out.size)) ?_; rintro e' x7 ⟨rfl, hbx⟩
      refine hK.out _ _ (Below.then hHeld hbx hHeld.size) (fun hHeld => ?_)
      clear hK K
      refine' wpAnyH_take (i := 4) (v := _) rfl (by kernel_rfl) (by kernel_rfl) (by kernel_rfl) (fun _ _ _ h => h) (Or.inl ⟨by rfl, ?hy100010⟩) hHeld ?hn100010
      case hy100010 => (intro wz hSw; (try dsimp only at hSw); go_simp; first | done | with_reducible rfl)
      try simp only [List.getElem_toArray, List.getElem_cons_zero, List.getElem_cons_succ, Act.put, List.setIfInBounds_toArray, List.set_cons_zero, List.set_cons_succ]
      refine' wpAnyH_take (i := 5) (v := _) rfl (by kernel_rfl) (by kernel_rfl) (by kernel_rfl) (fun _ _ _ h => h) (Or.inl ⟨by rfl, ?hy100011⟩) hHeld ?hn100011
      case hy100011 => (intro wz hSw; (try dsimp only at hSw); go_simp; first | done | with_reducible rfl)
      try simp only [List.getElem_toArray, List.getElem_cons_zero, List.getElem_cons_succ, Act.put, List.setIfInBounds_toArray, List.set_cons_zero, List.set_cons_succ]
      refine wpAnyH_done (by kernel_rfl) ?_ _
      have hb_w7 := hHeld
      have w7e : ∃ x, x = x7 := ⟨_, rfl⟩
      obtain ⟨w7, rfl⟩ := w7e
      have B_w7 : Hid (Below w1.heap.size w1 w7) := Below.then B_w5.out hb_w7 B_w5.out.size
      have G_w7 : Hid (C2 w7 w1.heap.size (.slice la ls.length lc) (.slice sa l.length sc)) := G_w5.out.same (hb_w7.block _ (World.block_lt_of_cell? _ _ G_w5.out.1.1))
      clear hb_w7
      try clear p0 p1
      obtain ⟨⟨p0, p1⟩, -⟩ := id G_w7.out
      go_wp2
      go_ret
      exact ⟨rfl, HB1.out.trans (B_w7.out.mono HB1.out.size)⟩
    · have hn8 : (ls.length : Int) ≤ 8 := by omega
      have hlab := progB_labs HPB.out
      have hn4 := progB_len HPB.out
      try simp only [Bool.not_true, Bool.not_false]
      go_wp2
      go_loopw [4] (fun j wr => ∃ (v : Nat), v ≤ ls.length ∧ j = .int .i64 v ∧ Below w5.heap.size w5 wr) (fun j _ => ls.length - (intOf j).toNat)
      case atStart => exact ⟨0, by omega, rfl, Below.refl _ _⟩
      case round =>
        obtain ⟨v, hv, rfl, hB⟩ := hrel
        have HB : Hid _ := hB
        have p0' := cell_later hB p0
        have i0' : (0 : Int) ≤ (v : Int) := by omega
        clear hB
        by_cases hlt : v < ls.length
        · have i1' : (v : Int) < (ls.length : Int) := by omega
          obtain ⟨wo, rfl⟩ : ∃ x, x = wr := ⟨_, rfl⟩
          have HWR : Hid (Below wo.heap.size wo wo) := Below.refl _ _
          go_wp2
          go_loopw [5] (fun j wq => ∃ (h : Nat), h ≤ 3 ∧ j = .int .i64 h ∧ Below wo.heap.size wo wq) (fun j _ => 3 - (intOf j).toNat)
          case atStart => exact ⟨0, by omega, rfl, HWR.out⟩
          case round =>
            obtain ⟨wq, rfl⟩ : ∃ x, x = wr := ⟨_, rfl⟩
            obtain ⟨h, hh, rfl, hB2⟩ := hrel
            have HB2 : Hid _ := hB2
            have p0q := cell_later hB2 p0'
            have h0' : (0 : Int) ≤ (h : Int) := by omega
            by_cases hlt3 : h < 3
            · have h1' : (h : Int) < 3 := by omega
              have BQ : Below w1.heap.size w1 wq := Below.then B_w5.out (Below.then HB.out hB2 HB.out.size) B_w5.out.size
              have HBQ : Hid _ := BQ
              obtain ⟨lb, lf, hla, q0, q1⟩ := (HLR.out _ BQ).1.at i0' i1'
              subst hla
              simp only [Int.toNat_natCast] at q0 q1
              have A12 : Below wq.heap.size wq ((wq.alloc (.cells #[.int .i64 3, .int .i64 (v : Int), .int .i64 0, .int .i64 0, .int .i64 0, .int .i64 (h : Int), .slice none 0 0, .slice none 0 0] 43)).alloc (.cells #[(.slice (some ⟨lb, lf, none⟩) ls.length lc), .slice (some ⟨wq.heap.size, 0, none⟩) 1 1] 26)) := ((Below.refl _ _).alloc (Nat.le_refl _) _).alloc (by simp) _
              have St : StepAt ((wq.alloc (.cells #[.int .i64 3, .int .i64 (v : Int), .int .i64 0, .int .i64 0, .int .i64 0, .int .i64 (h : Int), .slice none 0 0, .slice none 0 0] 43)).alloc (.cells #[(.slice (some ⟨lb, lf, none⟩) ls.length lc), .slice (some ⟨wq.heap.size, 0, none⟩) 1 1] 26)) wq.heap.size 0 ⟨3, (v : Int), 0, 0, 0, (h : Int)⟩ (.slice none 0 0) (.slice none 0 0) := StepAt.on (w := wq.alloc (.cells #[.int .i64 3, .int .i64 (v : Int), .int .i64 0, .int .i64 0, .int .i64 0, .int .i64 (h : Int), .slice none 0 0, .slice none 0 0] 43)) (fun a u k => cell_later ((Below.refl _ _).alloc (Nat.le_refl _) _) k) (C8.new wq _ _ _ _ _ _ _ _ _).1
              have G12 := C2.new (wq.alloc (.cells #[.int .i64 3, .int .i64 (v : Int), .int .i64 0, .int .i64 0, .int .i64 0, .int .i64 (h : Int), .slice none 0 0, .slice none 0 0] 43)) (.slice (some ⟨lb, lf, none⟩) ls.length lc) (.slice (some ⟨wq.heap.size, 0, none⟩) 1 1) 26
              generalize hw12 : (wq.alloc (.cells #[.int .i64 3, .int .i64 (v : Int), .int .i64 0, .int .i64 0, .int .i64 0, .int .i64 (h : Int), .slice none 0 0, .slice none 0 0] 43)).alloc (.cells #[(.slice (some ⟨lb, lf, none⟩) ls.length lc), .slice (some ⟨wq.heap.size, 0, none⟩) 1 1] 26) = w12 at A12 St G12
              have HW12 : Hid _ := hw12
              have B12 : Hid (Below w1.heap.size w1 w12) := Below.then BQ A12 BQ.size
              have zq : (wq.alloc (.cells #[.int .i64 3, .int .i64 (v : Int), .int .i64 0, .int .i64 0, .int .i64 0, .int .i64 (h : Int), .slice none 0 0, .slice none 0 0] 43)).heap.size = wq.heap.size + 1 := by simp
              rw [zq] at G12
              have CI0 := fun wz hb => typeOk_any (w := wz) (HLR.out wz (Below.then B12.out hb B12.out.size)).1 (rep_tell (St.on (fun a u k => cell_later hb k))) (HLR.out wz (Below.then B12.out hb B12.out.size)).2.2.1 (HLR.out wz (Below.then B12.out hb B12.out.size)).2.2.2
              have hhas := lab_ok hlab (v : Int)
              rw [tell_fine hlab hn4 i0' i1' h0' (by omega)] at CI0
              have CI : Hid _ := CI0 w12.drew ((Below.refl _ _).drew)
              have CH : Hid _ := fun wz => lcHas_any (lab ls (v : Int)).1 (h : Int) wz hhas.1.1 hhas.1.2 h0' (by omega)
              have HA12 : Hid _ := A12
              replace q0 := cell_later A12 q0
              have p0z := cell_later A12 p0q
              obtain ⟨⟨g0, g1⟩, -⟩ := G12
              generalize lab ls (v : Int) = lx at *
              obtain ⟨hb12, hhb⟩ : ∃ b, hasB lx.1 (h : Int) = b := ⟨_, rfl⟩
              rw [hhb] at CI CH
              clear St hw12 CI0 hhas hB2 BQ A12 q1 hhb
              go_wp2_with fail
              rw [HW12.out]
              clear HW12
              refine wp_region_held (S := (fun wz => Below w12.heap.size w12 wz)) (by kernel_rfl) ?_
              change wpAnyH _ _ _ _ _ _ _ _ (World.drew _)
              have hHeld := (show Below w12.heap.size w12 (World.drew w12) from (Below.refl _ _).drew)
              refine' wpAnyH_take (i := 0) (v := (.agg #[.slice (some ⟨lb, lf, none⟩) ls.length lc, .slice (some ⟨wq.heap.size, 0, none⟩) 1 1])) rfl (by kernel_rfl) (by kernel_rfl) (by kernel_rfl) (fun _ _ _ h => h) (Or.inl ⟨by rfl, ?hy100023⟩) hHeld ?hn100023
              case hy100023 => (intro wz hSw; have j0 := cell_later hSw g0; have j1 := cell_later hSw g1; go_simp)
              try simp only [List.getElem_toArray, List.getElem_cons_zero, List.getElem_cons_succ, Act.put, List.setIfInBounds_toArray, List.set_cons_zero, List.set_cons_succ]
              refine' wpAnyH_take (i := 2) (v := _) rfl (by kernel_rfl) (by kernel_rfl) (by kernel_rfl) (fun _ _ _ h => h) (Or.inl ⟨by rfl, ?hy100024⟩) hHeld ?hn100024
              case hy100024 => (intro wz hSw; (try dsimp only at hSw); go_simp; first | done | with_reducible rfl)
              try simp only [List.getElem_toArray, List.getElem_cons_zero, List.getElem_cons_succ, Act.put, List.setIfInBounds_toArray, List.set_cons_zero, List.set_cons_succ]
              refine' wpAnyH_take (i := 3) (v := (.slice (some ⟨lb, lf, none⟩) ls.length lc)) rfl (by kernel_rfl) (by kernel_rfl) (by kernel_rfl) (fun _ _ _ h => h) (Or.inl ⟨by rfl, ?hy100025⟩) hHeld ?hn100025
              case hy100025 => (intro wz hSw; have j0 := cell_later hSw p0z; go_simp)
              try simp only [List.getElem_toArray, List.getElem_cons_zero, List.getElem_cons_succ, Act.put, List.setIfInBounds_toArray, List.set_cons_zero, List.set_cons_succ]
              refine' wpAnyH_take (i := 4) (v := _) rfl (by kernel_rfl) (by kernel_rfl) (by kernel_rfl) (fun _ _ _ h => h) (Or.inl ⟨by rfl, ?hy100026⟩) hHeld ?hn100026
              case hy100026 => (intro wz hSw; (try dsimp only at hSw); go_simp; first | done | with_reducible rfl)
              try simp only [List.getElem_toArray, List.getElem_cons_zero, List.getElem_cons_succ, Act.put, List.setIfInBounds_toArray, List.set_cons_zero, List.set_cons_succ]
              refine' wpAnyH_take (i := 5) (v := (.pointer (some ⟨lb, lf + v * 2, none⟩))) rfl (by kernel_rfl) (by kernel_rfl) (by kernel_rfl) (fun _ _ _ h => h) (Or.inl ⟨by rfl, ?hy100027⟩) hHeld ?hn100027
              case hy100027 => (intro wz hSw; go_simp; first | done | (simp; done))
              try simp only [List.getElem_toArray, List.getElem_cons_zero, List.getElem_cons_succ, Act.put, List.setIfInBounds_toArray, List.set_cons_zero, List.set_cons_succ]
              refine' wpAnyH_take (i := 6) (v := _) rfl (by kernel_rfl) (by kernel_rfl) (by kernel_rfl) (fun _ _ _ h => h) (Or.inl ⟨by rfl, ?hy100028⟩) hHeld ?hn100028
              case hy100028 => (intro wz hSw; (try dsimp only at hSw); go_simp; first | done | with_reducible rfl)
              try simp only [List.getElem_toArray, List.getElem_cons_zero, List.getElem_cons_succ, Act.put, List.setIfInBounds_toArray, List.set_cons_zero, List.set_cons_succ]
              refine' wpAnyH_take (i := 7) (v := (.int .i64 lx.1)) rfl (by kernel_rfl) (by kernel_rfl) (by kernel_rfl) (fun _ _ _ h => h) (Or.inl ⟨by rfl, ?hy100029⟩) hHeld ?hn100029
              case hy100029 => (intro wz hSw; have j0 := cell_later hSw q0; go_simp)
              try simp only [List.getElem_toArray, List.getElem_cons_zero, List.getElem_cons_succ, Act.put, List.setIfInBounds_toArray, List.set_cons_zero, List.set_cons_succ]
              refine' wpAnyH_take (i := 8) (v := _) rfl (by kernel_rfl) (by kernel_rfl) (by kernel_rfl) (fun _ _ _ h => h) (Or.inl ⟨by rfl, ?hy100030⟩) hHeld ?hn100030
              case hy100030 => (intro wz hSw; (try dsimp only at hSw); go_simp; first | done | with_reducible rfl)
              try simp only [List.getElem_toArray, List.getElem_cons_zero, List.getElem_cons_succ, Act.put, List.setIfInBounds_toArray, List.set_cons_zero, List.set_cons_succ]
              refine wpAnyH_ready (rs := [1]) (by kernel_rfl) (by simp) ?_
              refine AllReadyH.cons rfl (fun K hK => ?_) AllReadyH.nil
              go_simp
              refine Calls.mono (CI.out) ?_; rintro e' x13 ⟨rfl, hbx⟩
              refine hK.out _ _ (Below.then hHeld hbx hHeld.size) (fun hHeld => ?_)
              clear hK K
              refine wpAnyH_ready (rs := [9]) (by kernel_rfl) (by simp) ?_
              refine AllReadyH.cons rfl (fun K hK => ?_) AllReadyH.nil
              go_simp
              refine Calls.mono (CH.out _) ?_; rintro e' x14 ⟨rfl, rfl⟩
              refine hK.out _ _ (hHeld) (fun hHeld => ?_)
              clear hK K
              refine' wpAnyH_take (i := 10) (v := _) rfl (by kernel_rfl) (by kernel_rfl) (by kernel_rfl) (fun _ _ _ h => h) (Or.inl ⟨by rfl, ?hy100031⟩) hHeld ?hn100031
              case hy100031 => (intro wz hSw; (try dsimp only at hSw); go_simp; first | done | with_reducible rfl)
              try simp only [List.getElem_toArray, List.getElem_cons_zero, List.getElem_cons_succ, Act.put, List.setIfInBounds_toArray, List.set_cons_zero, List.set_cons_succ]
              refine wpAnyH_done (by kernel_rfl) ?_ _
              have HBF : Hid (Below wo.heap.size wo x14) := Below.then HB2.out (Below.then HA12.out hHeld HA12.out.size) HB2.out.size
              clear hHeld g0 g1 q0 p0q p0z
              cases hb12
              all_goals
                go_wp2
                exact ⟨⟨h + 1, by omega, by simp, HBF.out⟩, by simp [intOf]; omega⟩
            · have : h = 3 := by omega
              subst this
              have HBF : Hid (Below w5.heap.size w5 wq) := Below.then HB.out hB2 HB.out.size
              clear hB2 p0q
              go_wp2
              exact ⟨⟨v + 1, by omega, by simp, HBF.out⟩, by simp [intOf]; omega⟩
        · have hie : v = ls.length := by omega
          subst hie
          have HBF : Hid (Below w1.heap.size w1 wr) := Below.then B_w5.out HB.out B_w5.out.size
          go_wp2
          exact bodyPost_ret (v := .bool true) (by simp [results, Tryd.results7, go_sem]) rfl ⟨rfl, HB1.out.trans (HBF.out.mono HB1.out.size)⟩
  · refine wp_region_held (S := (fun wz => Below w2.heap.size w2 wz)) (by kernel_rfl) ?_
    change wpAnyH _ _ _ _ _ _ _ _ (World.drew _)
    have hHeld := (show Below w2.heap.size w2 (World.drew w2) from (Below.refl _ _).drew)
    refine' wpAnyH_take (i := 0) (v := (.agg #[.slice la ls.length lc, .slice sa l.length sc])) rfl (by kernel_rfl) (by kernel_rfl) (by kernel_rfl) (fun _ _ _ h => h) (Or.inl ⟨by rfl, ?hy100012⟩) hHeld ?hn100012
    case hy100012 => (intro wz hSw; have j0 := cell_later hSw p0; have j1 := cell_later hSw p1; go_simp)
    try simp only [List.getElem_toArray, List.getElem_cons_zero, List.getElem_cons_succ, Act.put, List.setIfInBounds_toArray, List.set_cons_zero, List.set_cons_succ]
    refine' wpAnyH_take (i := 2) (v := (.agg #[.slice la ls.length lc, .slice sa l.length sc])) rfl (by kernel_rfl) (by kernel_rfl) (by kernel_rfl) (fun _ _ _ h => h) (Or.inl ⟨by rfl, ?hy100013⟩) hHeld ?hn100013
    case hy100013 => (intro wz hSw; have j0 := cell_later hSw p0; have j1 := cell_later hSw p1; go_simp)
    try simp only [List.getElem_toArray, List.getElem_cons_zero, List.getElem_cons_succ, Act.put, List.setIfInBounds_toArray, List.set_cons_zero, List.set_cons_succ]
    refine wpAnyH_ready (rs := [1]) (by kernel_rfl) (by simp) ?_
    refine AllReadyH.cons rfl (fun K hK => ?_) AllReadyH.nil
    go_simp
    refine Calls.mono (HT.out _ (Below.then B_w2.out hHeld B_w2.out.size)) ?_; rintro e' x3 ⟨rfl, hbx⟩
    refine hK.out _ _ (Below.then hHeld hbx hHeld.size) (fun hHeld => ?_)
    clear hK K
    refine wpAnyH_ready (rs := [3]) (by kernel_rfl) (by simp) ?_
    refine AllReadyH.cons rfl (fun K hK => ?_) AllReadyH.nil
    go_simp
    refine Calls.mono (HS.out _ (Below.then B_w2.out hHeld B_w2.out.size)) ?_; rintro e' x4 ⟨rfl, hbx⟩
    refine hK.out _ _ (Below.then hHeld hbx hHeld.size) (fun hHeld => ?_)
    clear hK K
    refine' wpAnyH_take (i := 4) (v := _) rfl (by kernel_rfl) (by kernel_rfl) (by kernel_rfl) (fun _ _ _ h => h) (Or.inl ⟨by rfl, ?hy100014⟩) hHeld ?hn100014
    case hy100014 => (intro wz hSw; (try dsimp only at hSw); go_simp; first | done | with_reducible rfl)
    try simp only [List.getElem_toArray, List.getElem_cons_zero, List.getElem_cons_succ, Act.put, List.setIfInBounds_toArray, List.set_cons_zero, List.set_cons_succ]
    refine' wpAnyH_take (i := 5) (v := _) rfl (by kernel_rfl) (by kernel_rfl) (by kernel_rfl) (fun _ _ _ h => h) (Or.inl ⟨by rfl, ?hy100015⟩) hHeld ?hn100015
    case hy100015 => (intro wz hSw; (try dsimp only at hSw); go_simp; first | done | with_reducible rfl)
    try simp only [List.getElem_toArray, List.getElem_cons_zero, List.getElem_cons_succ, Act.put, List.setIfInBounds_toArray, List.set_cons_zero, List.set_cons_succ]
    refine' wpAnyH_take (i := 6) (v := (.agg #[.slice la ls.length lc, .slice sa l.length sc])) rfl (by kernel_rfl) (by kernel_rfl) (by kernel_rfl) (fun _ _ _ h => h) (Or.inl ⟨by rfl, ?hy100016⟩) hHeld ?hn100016
    case hy100016 => (intro wz hSw; have j0 := cell_later hSw p0; have j1 := cell_later hSw p1; go_simp)
    try simp only [List.getElem_toArray, List.getElem_cons_zero, List.getElem_cons_succ, Act.put, List.setIfInBounds_toArray, List.set_cons_zero, List.set_cons_succ]
    refine wpAnyH_ready (rs := [7]) (by kernel_rfl) (by simp) ?_
    refine AllReadyH.cons rfl (fun K hK => ?_) AllReadyH.nil
    go_simp
    refine Calls.mono (HP.out _ (Below.then B_w2.out hHeld B_w2.out.size)) ?_; rintro e' x5 ⟨rfl, hbx⟩
    refine hK.out _ _ (Below.then hHeld hbx hHeld.size) (fun hHeld => ?_)
    clear hK K
    refine' wpAnyH_take (i := 8) (v := _) rfl (by kernel_rfl) (by kernel_rfl) (by kernel_rfl) (fun _ _ _ h => h) (Or.inl ⟨by rfl, ?hy100017⟩) hHeld ?hn100017
    case hy100017 => (intro wz hSw; (try dsimp only at hSw); go_simp; first | done | with_reducible rfl)
    try simp only [List.getElem_toArray, List.getElem_cons_zero, List.getElem_cons_succ, Act.put, List.setIfInBounds_toArray, List.set_cons_zero, List.set_cons_succ]
    refine' wpAnyH_take (i := 9) (v := _) rfl (by kernel_rfl) (by kernel_rfl) (by kernel_rfl) (fun _ _ _ h => h) (Or.inl ⟨by rfl, ?hy100018⟩) hHeld ?hn100018
    case hy100018 => (intro wz hSw; (try dsimp only at hSw); go_simp; first | done | with_reducible rfl)
    try simp only [List.getElem_toArray, List.getElem_cons_zero, List.getElem_cons_succ, Act.put, List.setIfInBounds_toArray, List.set_cons_zero, List.set_cons_succ]
    refine wpAnyH_done (by kernel_rfl) ?_ _
    have hb_w5 := hHeld
    have w5e : ∃ x, x = x5 := ⟨_, rfl⟩
    obtain ⟨w5, rfl⟩ := w5e
    have B_w5 : Hid (Below w1.heap.size w1 w5) := Below.then B_w2.out hb_w5 B_w2.out.size
    have G_w5 : Hid (C2 w5 w1.heap.size (.slice la ls.length lc) (.slice sa l.length sc)) := G_w2.out.same (hb_w5.block _ (World.block_lt_of_cell? _ _ G_w2.out.1.1))
    clear hb_w5
    try clear p0 p1
    obtain ⟨⟨p0, p1⟩, -⟩ := id G_w5.out
    clear hHeld
    cases pb
    · go_wp2_with fail
      refine wp_region_held (S := (fun wz => Below w5.heap.size w5 wz)) (by kernel_rfl) ?_
      change wpAnyH _ _ _ _ _ _ _ _ (World.drew _)
      have hHeld := (show Below w5.heap.size w5 (World.drew w5) from (Below.refl _ _).drew)
      refine' wpAnyH_take (i := 0) (v := (.agg #[.slice la ls.length lc, .slice sa l.length sc])) rfl (by kernel_rfl) (by kernel_rfl) (by kernel_rfl) (fun _ _ _ h => h) (Or.inl ⟨by rfl, ?hy100019⟩) hHeld ?hn100019
      case hy100019 => (intro wz hSw; have j0 := cell_later hSw p0; have j1 := cell_later hSw p1; go_simp)
      try simp only [List.getElem_toArray, List.getElem_cons_zero, List.getElem_cons_succ, Act.put, List.setIfInBounds_toArray, List.set_cons_zero, List.set_cons_succ]
      refine' wpAnyH_take (i := 2) (v := (.agg #[.slice la ls.length lc, .slice sa l.length sc])) rfl (by kernel_rfl) (by kernel_rfl) (by kernel_rfl) (fun _ _ _ h => h) (Or.inl ⟨by rfl, ?hy100020⟩) hHeld ?hn100020
      case hy100020 => (intro wz hSw; have j0 := cell_later hSw p0; have j1 := cell_later hSw p1; go_simp)
      try simp only [List.getElem_toArray, List.getElem_cons_zero, List.getElem_cons_succ, Act.put, List.setIfInBounds_toArray, List.set_cons_zero, List.set_cons_succ]
      refine wpAnyH_ready (rs := [1]) (by kernel_rfl) (by simp) ?_
      refine AllReadyH.cons rfl (fun K hK => ?_) AllReadyH.nil
      go_simp
      refine Calls.mono (HT.out _ (Below.then B_w5.out hHeld B_w5.out.size)) ?_; rintro e' x6 ⟨rfl, hbx⟩
      refine hK.out _ _ (Below.then hHeld hbx hHeld.size) (fun hHeld => ?_)
      clear hK K
      refine wpAnyH_ready (rs := [3]) (by kernel_rfl) (by simp) ?_
      refine AllReadyH.cons rfl (fun K hK => ?_) AllReadyH.nil
      go_simp
      refine Calls.mono (HS.out _ (Below.then B_w5.out hHeld B_w5.out.size)) ?_; rintro e' x7 ⟨rfl, hbx⟩
      refine hK.out _ _ (Below.then hHeld hbx hHeld.size) (fun hHeld => ?_)
      clear hK K
      refine' wpAnyH_take (i := 4) (v := _) rfl (by kernel_rfl) (by kernel_rfl) (by kernel_rfl) (fun _ _ _ h => h) (Or.inl ⟨by rfl, ?hy100021⟩) hHeld ?hn100021
      case hy100021 => (intro wz hSw; (try dsimp only at hSw); go_simp; first | done | with_reducible rfl)
      try simp only [List.getElem_toArray, List.getElem_cons_zero, List.getElem_cons_succ, Act.put, List.setIfInBounds_toArray, List.set_cons_zero, List.set_cons_succ]
      refine' wpAnyH_take (i := 5) (v := _) rfl (by kernel_rfl) (by kernel_rfl) (by kernel_rfl) (fun _ _ _ h => h) (Or.inl ⟨by rfl, ?hy100022⟩) hHeld ?hn100022
      case hy100022 => (intro wz hSw; (try dsimp only at hSw); go_simp; first | done | with_reducible rfl)
      try simp only [List.getElem_toArray, List.getElem_cons_zero, List.getElem_cons_succ, Act.put, List.setIfInBounds_toArray, List.set_cons_zero, List.set_cons_succ]
      refine wpAnyH_done (by kernel_rfl) ?_ _
      have hb_w7 := hHeld
      have w7e : ∃ x, x = x7 := ⟨_, rfl⟩
      obtain ⟨w7, rfl⟩ := w7e
      have B_w7 : Hid (Below w1.heap.size w1 w7) := Below.then B_w5.out hb_w7 B_w5.out.size
      have G_w7 : Hid (C2 w7 w1.heap.size (.slice la ls.length lc) (.slice sa l.length sc)) := G_w5.out.same (hb_w7.block _ (World.block_lt_of_cell? _ _ G_w5.out.1.1))
      clear hb_w7
      try clear p0 p1
      obtain ⟨⟨p0, p1⟩, -⟩ := id G_w7.out
      go_wp2
      go_ret
      exact ⟨rfl, HB1.out.trans (B_w7.out.mono HB1.out.size)⟩
    · have hn8 : (ls.length : Int) ≤ 8 := by omega
      have hlab := progB_labs HPB.out
      have hn4 := progB_len HPB.out
      try simp only [Bool.not_true, Bool.not_false]
      go_wp2
      go_loopw [4] (fun j wr => ∃ (v : Nat), v ≤ ls.length ∧ j = .int .i64 v ∧ Below w5.heap.size w5 wr) (fun j _ => ls.length - (intOf j).toNat)
      case atStart => exact ⟨0, by omega, rfl, Below.refl _ _⟩
      case round =>
        obtain ⟨v, hv, rfl, hB⟩ := hrel
        have HB : Hid _ := hB
        have p0' := cell_later hB p0
        have i0' : (0 : Int) ≤ (v : Int) := by omega
        clear hB
        by_cases hlt : v < ls.length
        · have i1' : (v : Int) < (ls.length : Int) := by omega
          obtain ⟨wo, rfl⟩ : ∃ x, x = wr := ⟨_, rfl⟩
          have HWR : Hid (Below wo.heap.size wo wo) := Below.refl _ _
          go_wp2
          go_loopw [5] (fun j wq => ∃ (h : Nat), h ≤ 3 ∧ j = .int .i64 h ∧ Below wo.heap.size wo wq) (fun j _ => 3 - (intOf j).toNat)
          case atStart => exact ⟨0, by omega, rfl, HWR.out⟩
          case round =>
            obtain ⟨wq, rfl⟩ : ∃ x, x = wr := ⟨_, rfl⟩
            obtain ⟨h, hh, rfl, hB2⟩ := hrel
            have HB2 : Hid _ := hB2
            have p0q := cell_later hB2 p0'
            have h0' : (0 : Int) ≤ (h : Int) := by omega
            by_cases hlt3 : h < 3
            · have h1' : (h : Int) < 3 := by omega
              have BQ : Below w1.heap.size w1 wq := Below.then B_w5.out (Below.then HB.out hB2 HB.out.size) B_w5.out.size
              have HBQ : Hid _ := BQ
              obtain ⟨lb, lf, hla, q0, q1⟩ := (HLR.out _ BQ).1.at i0' i1'
              subst hla
              simp only [Int.toNat_natCast] at q0 q1
              have A12 : Below wq.heap.size wq ((wq.alloc (.cells #[.int .i64 3, .int .i64 (v : Int), .int .i64 0, .int .i64 0, .int .i64 0, .int .i64 (h : Int), .slice none 0 0, .slice none 0 0] 43)).alloc (.cells #[(.slice (some ⟨lb, lf, none⟩) ls.length lc), .slice (some ⟨wq.heap.size, 0, none⟩) 1 1] 26)) := ((Below.refl _ _).alloc (Nat.le_refl _) _).alloc (by simp) _
              have St : StepAt ((wq.alloc (.cells #[.int .i64 3, .int .i64 (v : Int), .int .i64 0, .int .i64 0, .int .i64 0, .int .i64 (h : Int), .slice none 0 0, .slice none 0 0] 43)).alloc (.cells #[(.slice (some ⟨lb, lf, none⟩) ls.length lc), .slice (some ⟨wq.heap.size, 0, none⟩) 1 1] 26)) wq.heap.size 0 ⟨3, (v : Int), 0, 0, 0, (h : Int)⟩ (.slice none 0 0) (.slice none 0 0) := StepAt.on (w := wq.alloc (.cells #[.int .i64 3, .int .i64 (v : Int), .int .i64 0, .int .i64 0, .int .i64 0, .int .i64 (h : Int), .slice none 0 0, .slice none 0 0] 43)) (fun a u k => cell_later ((Below.refl _ _).alloc (Nat.le_refl _) _) k) (C8.new wq _ _ _ _ _ _ _ _ _).1
              have G12 := C2.new (wq.alloc (.cells #[.int .i64 3, .int .i64 (v : Int), .int .i64 0, .int .i64 0, .int .i64 0, .int .i64 (h : Int), .slice none 0 0, .slice none 0 0] 43)) (.slice (some ⟨lb, lf, none⟩) ls.length lc) (.slice (some ⟨wq.heap.size, 0, none⟩) 1 1) 26
              generalize hw12 : (wq.alloc (.cells #[.int .i64 3, .int .i64 (v : Int), .int .i64 0, .int .i64 0, .int .i64 0, .int .i64 (h : Int), .slice none 0 0, .slice none 0 0] 43)).alloc (.cells #[(.slice (some ⟨lb, lf, none⟩) ls.length lc), .slice (some ⟨wq.heap.size, 0, none⟩) 1 1] 26) = w12 at A12 St G12
              have HW12 : Hid _ := hw12
              have B12 : Hid (Below w1.heap.size w1 w12) := Below.then BQ A12 BQ.size
              have zq : (wq.alloc (.cells #[.int .i64 3, .int .i64 (v : Int), .int .i64 0, .int .i64 0, .int .i64 0, .int .i64 (h : Int), .slice none 0 0, .slice none 0 0] 43)).heap.size = wq.heap.size + 1 := by simp
              rw [zq] at G12
              have CI0 := fun wz hb => typeOk_any (w := wz) (HLR.out wz (Below.then B12.out hb B12.out.size)).1 (rep_tell (St.on (fun a u k => cell_later hb k))) (HLR.out wz (Below.then B12.out hb B12.out.size)).2.2.1 (HLR.out wz (Below.then B12.out hb B12.out.size)).2.2.2
              have hhas := lab_ok hlab (v : Int)
              rw [tell_fine hlab hn4 i0' i1' h0' (by omega)] at CI0
              have CI : Hid _ := CI0 w12.drew ((Below.refl _ _).drew)
              have CH : Hid _ := fun wz => lcHas_any (lab ls (v : Int)).1 (h : Int) wz hhas.1.1 hhas.1.2 h0' (by omega)
              have HA12 : Hid _ := A12
              replace q0 := cell_later A12 q0
              have p0z := cell_later A12 p0q
              obtain ⟨⟨g0, g1⟩, -⟩ := G12
              generalize lab ls (v : Int) = lx at *
              obtain ⟨hb12, hhb⟩ : ∃ b, hasB lx.1 (h : Int) = b := ⟨_, rfl⟩
              rw [hhb] at CI CH
              clear St hw12 CI0 hhas hB2 BQ A12 q1 hhb
              go_wp2_with fail
              rw [HW12.out]
              clear HW12
              refine wp_region_held (S := (fun wz => Below w12.heap.size w12 wz)) (by kernel_rfl) ?_
              change wpAnyH _ _ _ _ _ _ _ _ (World.drew _)
              have hHeld := (show Below w12.heap.size w12 (World.drew w12) from (Below.refl _ _).drew)
              refine' wpAnyH_take (i := 0) (v := (.agg #[.slice (some ⟨lb, lf, none⟩) ls.length lc, .slice (some ⟨wq.heap.size, 0, none⟩) 1 1])) rfl (by kernel_rfl) (by kernel_rfl) (by kernel_rfl) (fun _ _ _ h => h) (Or.inl ⟨by rfl, ?hy100032⟩) hHeld ?hn100032
              case hy100032 => (intro wz hSw; have j0 := cell_later hSw g0; have j1 := cell_later hSw g1; go_simp)
              try simp only [List.getElem_toArray, List.getElem_cons_zero, List.getElem_cons_succ, Act.put, List.setIfInBounds_toArray, List.set_cons_zero, List.set_cons_succ]
              refine' wpAnyH_take (i := 2) (v := _) rfl (by kernel_rfl) (by kernel_rfl) (by kernel_rfl) (fun _ _ _ h => h) (Or.inl ⟨by rfl, ?hy100033⟩) hHeld ?hn100033
              case hy100033 => (intro wz hSw; (try dsimp only at hSw); go_simp; first | done | with_reducible rfl)
              try simp only [List.getElem_toArray, List.getElem_cons_zero, List.getElem_cons_succ, Act.put, List.setIfInBounds_toArray, List.set_cons_zero, List.set_cons_succ]
              refine' wpAnyH_take (i := 3) (v := (.slice (some ⟨lb, lf, none⟩) ls.length lc)) rfl (by kernel_rfl) (by kernel_rfl) (by kernel_rfl) (fun _ _ _ h => h) (Or.inl ⟨by rfl, ?hy100034⟩) hHeld ?hn100034
              case hy100034 => (intro wz hSw; have j0 := cell_later hSw p0z; go_simp)
              try simp only [List.getElem_toArray, List.getElem_cons_zero, List.getElem_cons_succ, Act.put, List.setIfInBounds_toArray, List.set_cons_zero, List.set_cons_succ]
              refine' wpAnyH_take (i := 4) (v := _) rfl (by kernel_rfl) (by kernel_rfl) (by kernel_rfl) (fun _ _ _ h => h) (Or.inl ⟨by rfl, ?hy100035⟩) hHeld ?hn100035
              case hy100035 => (intro wz hSw; (try dsimp only at hSw); go_simp; first | done | with_reducible rfl)
              try simp only [List.getElem_toArray, List.getElem_cons_zero, List.getElem_cons_succ, Act.put, List.setIfInBounds_toArray, List.set_cons_zero, List.set_cons_succ]
              refine' wpAnyH_take (i := 5) (v := (.pointer (some ⟨lb, lf + v * 2, none⟩))) rfl (by kernel_rfl) (by kernel_rfl) (by kernel_rfl) (fun _ _ _ h => h) (Or.inl ⟨by rfl, ?hy100036⟩) hHeld ?hn100036
              case hy100036 => (intro wz hSw; go_simp; first | done | (simp; done))
              try simp only [List.getElem_toArray, List.getElem_cons_zero, List.getElem_cons_succ, Act.put, List.setIfInBounds_toArray, List.set_cons_zero, List.set_cons_succ]
              refine' wpAnyH_take (i := 6) (v := _) rfl (by kernel_rfl) (by kernel_rfl) (by kernel_rfl) (fun _ _ _ h => h) (Or.inl ⟨by rfl, ?hy100037⟩) hHeld ?hn100037
              case hy100037 => (intro wz hSw; (try dsimp only at hSw); go_simp; first | done | with_reducible rfl)
              try simp only [List.getElem_toArray, List.getElem_cons_zero, List.getElem_cons_succ, Act.put, List.setIfInBounds_toArray, List.set_cons_zero, List.set_cons_succ]
              refine' wpAnyH_take (i := 7) (v := (.int .i64 lx.1)) rfl (by kernel_rfl) (by kernel_rfl) (by kernel_rfl) (fun _ _ _ h => h) (Or.inl ⟨by rfl, ?hy100038⟩) hHeld ?hn100038
              case hy100038 => (intro wz hSw; have j0 := cell_later hSw q0; go_simp)
              try simp only [List.getElem_toArray, List.getElem_cons_zero, List.getElem_cons_succ, Act.put, List.setIfInBounds_toArray, List.set_cons_zero, List.set_cons_succ]
              refine' wpAnyH_take (i := 8) (v := _) rfl (by kernel_rfl) (by kernel_rfl) (by kernel_rfl) (fun _ _ _ h => h) (Or.inl ⟨by rfl, ?hy100039⟩) hHeld ?hn100039
              case hy100039 => (intro wz hSw; (try dsimp only at hSw); go_simp; first | done | with_reducible rfl)
              try simp only [List.getElem_toArray, List.getElem_cons_zero, List.getElem_cons_succ, Act.put, List.setIfInBounds_toArray, List.set_cons_zero, List.set_cons_succ]
              refine wpAnyH_ready (rs := [1]) (by kernel_rfl) (by simp) ?_
              refine AllReadyH.cons rfl (fun K hK => ?_) AllReadyH.nil
              go_simp
              refine Calls.mono (CI.out) ?_; rintro e' x13 ⟨rfl, hbx⟩
              refine hK.out _ _ (Below.then hHeld hbx hHeld.size) (fun hHeld => ?_)
              clear hK K
              refine wpAnyH_ready (rs := [9]) (by kernel_rfl) (by simp) ?_
              refine AllReadyH.cons rfl (fun K hK => ?_) AllReadyH.nil
              go_simp
              refine Calls.mono (CH.out _) ?_; rintro e' x14 ⟨rfl, rfl⟩
              refine hK.out _ _ (hHeld) (fun hHeld => ?_)
              clear hK K
              refine' wpAnyH_take (i := 10) (v := _) rfl (by kernel_rfl) (by kernel_rfl) (by kernel_rfl) (fun _ _ _ h => h) (Or.inl ⟨by rfl, ?hy100040⟩) hHeld ?hn100040
              case hy100040 => (intro wz hSw; (try dsimp only at hSw); go_simp; first | done | with_reducible rfl)
              try simp only [List.getElem_toArray, List.getElem_cons_zero, List.getElem_cons_succ, Act.put, List.setIfInBounds_toArray, List.set_cons_zero, List.set_cons_succ]
              refine wpAnyH_done (by kernel_rfl) ?_ _
              have HBF : Hid (Below wo.heap.size wo x14) := Below.then HB2.out (Below.then HA12.out hHeld HA12.out.size) HB2.out.size
              clear hHeld g0 g1 q0 p0q p0z
              cases hb12
              all_goals
                go_wp2
                exact ⟨⟨h + 1, by omega, by simp, HBF.out⟩, by simp [intOf]; omega⟩
            · have : h = 3 := by omega
              subst this
              have HBF : Hid (Below w5.heap.size w5 wq) := Below.then HB.out hB2 HB.out.size
              clear hB2 p0q
              go_wp2
              exact ⟨⟨v + 1, by omega, by simp, HBF.out⟩, by simp [intOf]; omega⟩
        · have hie : v = ls.length := by omega
          subst hie
          have HBF : Hid (Below w1.heap.size w1 wr) := Below.then B_w5.out HB.out B_w5.out.size
          go_wp2
          exact bodyPost_ret (v := .bool true) (by simp [results, Tryd.results7, go_sem]) rfl ⟨rfl, HB1.out.trans (HBF.out.mono HB1.out.size)⟩
end Go.Proofs.YtpmhkhajahoaaaaDoor
