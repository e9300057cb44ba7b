/- Each step has a number, and a label of being done: the law, walked. -/
import Derived.Test.YtpmhkhajahoaaaaDoorDpa
import Derived.Test.YtpmhkhajahoaaaaDoorTks
import Derived.Test.YtpmhkhajahoaaaaDoorAtP
import Derived.Test.YtpmhkhajahoaaaaDoorAtS
import Derived.Test.YtpmhkhajahoaaaaDoorImp
namespace Go.Proofs.YtpmhkhajahoaaaaDoor
open Go.RowKit
set_option linter.unusedSimpArgs false
set_option linter.unusedVariables false
attribute [local go_sem] World.cell?_alloc_some
/-- What ProgAt answers, in brief: some step, and whether there is one. -/
def AtBrief (w : World) (b : Bool) (e : Ending) (w' : World) : Prop := ∃ (k v vk va vb h : Int) (ta ea : Option Addr) (tn tc en ec : Nat), e = .returned (.tuple #[.agg #[.int .i64 k, .int .i64 v, .int .i64 vk, .int .i64 va, .int .i64 vb, .int .i64 h, .slice ta tn tc, .slice ea en ec], .bool b]) ∧ Below w.heap.size w w'
theorem at_brief {w : World} {ls : List (Int × Int)} {d : Nat} {T : Tr d} {n : Int} {e : Ending} {w' : World} (h : AtPost w ls d T n e w') : AtBrief w (progB ls d T && vIn (cnt d T) n) e w' := by
  rcases h.2 with ⟨hb, x, t', e', b1, b2, hx, rfl, o1, o2, -⟩ | ⟨hb, rfl⟩
  · obtain ⟨ta, tc, rfl⟩ := o1.slice
    obtain ⟨ea, ec, rfl⟩ := o2.slice
    rw [hb]
    exact ⟨_, _, _, _, _, _, ta, ea, _, tc, _, ec, rfl, h.1⟩
  · rw [hb]
    exact ⟨_, _, _, _, _, _, none, none, 0, 0, 0, 0, rfl, h.1⟩

set_option maxHeartbeats 8000000 in
set_option maxRecDepth 20000 in
theorem fnProgCount_walk (a0 : Option Addr) (len0 cap0 : Nat) (z0 : List Int) (w : World) (s0 s1 : Addr) (hg0 : w.cell? ⟨0, 0, none⟩ = some (.iface 152 (.pointer (some s0)))) (hg1 : w.cell? ⟨1, 0, none⟩ = some (.iface 152 (.pointer (some s1)))) (h0 : IsRow .u8 w a0 len0 cap0 z0) :
    Calls Tryd.prog 10 #[.slice a0 len0 cap0] w fun e w' => e = .returned (.bool true) ∧ Below w.heap.size w w' := by
  by_cases hl0 : (1048576 : Int) < (len0 : Int)
  · go_enter Tryd.func10, Tryd.ntmps10
    go_wp2
    go_ret
    exact ⟨rfl, Below.refl _ _⟩
  have C1 : Hid _ := drawProgAt_any w a0 len0 cap0 z0 h0
  have HG0 : Hid _ := hg0
  have HG1 : Hid _ := hg1
  clear h0 hg0 hg1
  go_enter Tryd.func10, Tryd.ntmps10
  go_wp2_with fail
  go_at_call 28; refine Calls.mono C1.out ?_
  rintro e w1 ⟨lv, sv, ls, d, l, n, rfl, hLp, hRp, hn, ll, cn, hb1⟩
  have hL := hLp.rep
  have hR := hRp.rep
  obtain ⟨la, lc, rfl, hll, hlm, -⟩ := id hL
  obtain ⟨sa, sc, hsv, hslc, hscm, -⟩ := id hR
  subst hsv
  have hR : Rep w1 (d + 1) (.slice sa l.length sc) (l : List (Pay × Tr d × Tr d)) := hR
  have A : Below w1.heap.size w1 (w1.alloc (.cells #[.slice la ls.length lc, .slice sa l.length sc] 26)) := (Below.refl _ _).alloc (Nat.le_refl _) _
  have G2 := C2.new w1 (.slice la ls.length lc) (.slice sa l.length sc) 26
  have HLR : Hid (∀ wz, Below w1.heap.size w1 wz → LRep wz (.slice la ls.length lc) ls ∧ Rep wz (d + 1) (.slice sa l.length sc) (l : List (Pay × Tr d × Tr d)) ∧ wz.cell? ⟨0, 0, none⟩ = some (.iface 152 (.pointer (some s0))) ∧ wz.cell? ⟨1, 0, none⟩ = some (.iface 152 (.pointer (some s1)))) := (show ∀ wz, _ from fun wz hb => ⟨hL.below hb, hR.below hb, cell_later hb (cell_later hb1 HG0.out), cell_later hb (cell_later hb1 HG1.out)⟩)
  have HB1 : Hid (Below w.heap.size w w1) := hb1
  obtain ⟨pb, hpb⟩ : ∃ x, progB ls (d + 1) (l : List (Pay × Tr d × Tr d)) = x := ⟨_, rfl⟩
  obtain ⟨c, hc⟩ : ∃ x, (cnt (d + 1) (l : List (Pay × Tr d × Tr d))) = x := ⟨_, rfl⟩
  have HPS0 := fun (wz : World) (hb : Below w1.heap.size w1 wz) => progSize_any (HLR.out wz hb).1 (HLR.out wz hb).2.1
  have HAT0 := fun (wz : World) (hb : Below w1.heap.size w1 wz) => typeAt_any (HLR.out wz hb).1 (HLR.out wz hb).2.1 (HLR.out wz hb).2.2.1 (HLR.out wz hb).2.2.2
  have HSE0 := fun (wz : World) (hb : Below w1.heap.size w1 wz) => typeSets_any (HLR.out wz hb).1 (HLR.out wz hb).2.1 (HLR.out wz hb).2.2.1 (HLR.out wz hb).2.2.2
  have HAS0 := fun (wz : World) (hb : Below w1.heap.size w1 wz) => (sProgAt_any n (HLR.out wz hb).1 (HLR.out wz hb).2.1 (Nat.le_trans cn (by decide))).mono (fun e w' h => at_brief h)
  have HAI0 := fun (wz : World) (hb : Below w1.heap.size w1 wz) => (progAt_any n (HLR.out wz hb).1 (HLR.out wz hb).2.1).mono (fun e w' h => at_brief h)
  have hxa : (atR ls (d + 1) (l : List (Pay × Tr d × Tr d))).length = if pb then c else 0 := by
    unfold atR; rw [hpb]; cases pb
    · rfl
    · exact (atT_length ls (d + 1) (l : List (Pay × Tr d × Tr d)) topL).trans hc
  have hxb : (seR ls (d + 1) (l : List (Pay × Tr d × Tr d))).length = if pb then c else 0 := by
    unfold seR; rw [hpb]; cases pb
    · rfl
    · exact (setsL_length ls (d + 1) (l : List (Pay × Tr d × Tr d))).trans hc
  generalize atR ls (d + 1) (l : List (Pay × Tr d × Tr d)) = xa at HAT0 hxa
  generalize seR ls (d + 1) (l : List (Pay × Tr d × Tr d)) = xb at HSE0 hxb
  rw [hpb, hc] at HPS0 HAS0 HAI0
  rw [hc] at cn
  generalize hw2 : w1.alloc (.cells #[.slice la ls.length lc, .slice sa l.length sc] 26) = w2 at A G2
  have HW2 : Hid _ := hw2
  have B_w2 : Hid (Below w1.heap.size w1 w2) := A
  have G_w2 : Hid (C2 w2 w1.heap.size (.slice la ls.length lc) (.slice sa l.length sc)) := G2
  have HAT : Hid _ := HAT0
  have HSE : Hid _ := HSE0
  have HAS : Hid _ := HAS0
  have HAI : Hid _ := HAI0
  have HPS1 : Hid _ := HPS0
  clear hLp hRp hb1 C1 A G2 hw2 hL hR hpb hc HAT0 HSE0 HAS0 HAI0 HPS0
  go_wp2_with fail
  rw [HW2.out]
  clear HW2
  go_at_call 29; refine Calls.mono (HAS.out _ B_w2.out) ?_
  rintro e w3 ⟨k3, v3, vk3, va3, vb3, h3, ta3, ea3, tn3, tc3, en3, ec3, rfl, hb_w3⟩
  have B_w3 : Hid (Below w1.heap.size w1 w3) := Below.then B_w2.out hb_w3 B_w2.out.size
  have G_w3 : Hid (C2 w3 w1.heap.size (.slice la ls.length lc) (.slice sa l.length sc)) := G_w2.out.same (hb_w3.block _ (World.block_lt_of_cell? _ _ G_w2.out.1.1))
  clear hb_w3
  try clear p0 p1
  obtain ⟨⟨p0, p1⟩, -⟩ := id G_w3.out
  go_wp2_with fail
  obtain ⟨w4, hw4⟩ : ∃ x, x = w3.alloc (.cells #[.int .i64 k3, .int .i64 v3, .int .i64 vk3, .int .i64 va3, .int .i64 vb3, .int .i64 h3, .slice ta3 tn3 tc3, .slice ea3 en3 ec3] 43) := ⟨_, rfl⟩
  have hb_w4 : Below w3.heap.size w3 w4 := by rw [hw4]; exact (Below.refl _ _).alloc (Nat.le_refl _) _
  rw [← hw4]
  clear hw4
  have B_w4 : Hid (Below w1.heap.size w1 w4) := Below.then B_w3.out hb_w4 B_w3.out.size
  have G_w4 : Hid (C2 w4 w1.heap.size (.slice la ls.length lc) (.slice sa l.length sc)) := G_w3.out.same (hb_w4.block _ (World.block_lt_of_cell? _ _ G_w3.out.1.1))
  clear hb_w4
  try clear p0 p1
  obtain ⟨⟨p0, p1⟩, -⟩ := id G_w4.out
  go_at_call 30; refine Calls.mono (HAI.out _ B_w4.out) ?_
  rintro e w5 ⟨k5, v5, vk5, va5, vb5, h5, ta5, ea5, tn5, tc5, en5, ec5, rfl, hb_w5⟩
  have B_w5 : Hid (Below w1.heap.size w1 w5) := Below.then B_w4.out hb_w5 B_w4.out.size
  have G_w5 : Hid (C2 w5 w1.heap.size (.slice la ls.length lc) (.slice sa l.length sc)) := G_w4.out.same (hb_w5.block _ (World.block_lt_of_cell? _ _ G_w4.out.1.1))
  clear hb_w5
  try clear p0 p1
  obtain ⟨⟨p0, p1⟩, -⟩ := id G_w5.out
  obtain ⟨wb, hwb⟩ : ∃ x, x = w5.alloc (.cells #[.int .i64 k5, .int .i64 v5, .int .i64 vk5, .int .i64 va5, .int .i64 vb5, .int .i64 h5, .slice ta5 tn5 tc5, .slice ea5 en5 ec5] 43) := ⟨_, rfl⟩
  have Awb : Below w5.heap.size w5 wb := by rw [hwb]; exact (Below.refl _ _).alloc (Nat.le_refl _) _
  have BWb : Hid (Below w1.heap.size w1 wb) := Below.then B_w5.out Awb B_w5.out.size
  replace p0 := cell_later Awb p0
  replace p1 := cell_later Awb p1
  have HWB : Hid _ := hwb
  clear hwb Awb HAS HAI
  have hc400 : (c : Int) ≤ 400 := by omega
  cases pb
  · have HPS : Hid (∀ wz, Below w1.heap.size w1 wz → Calls Tryd.prog 19 #[.agg #[.slice la ls.length lc, .slice sa l.length sc]] wz fun e w' => e = .returned (.int .i64 (-1)) ∧ Below wz.heap.size wz w') := HPS1.out
    simp only [Bool.false_eq_true, if_false] at hxa hxb
    have hxa' : xa = [] := List.eq_nil_of_length_eq_zero hxa
    have hxb' : xb = [] := List.eq_nil_of_length_eq_zero hxb
    subst hxa' hxb'
    simp only [Bool.false_and]
    clear HPS1 hxa hxb
    by_cases hn0 : 0 ≤ n
    · have hnm : ¬ (n < -1) := by omega
      go_wp2_with fail
      rw [← HWB.out]
      clear HWB
      refine wp_region_held (S := (fun wz => Below wb.heap.size wb wz)) (by kernel_rfl) ?_
      change wpAnyH _ _ _ _ _ _ _ _ (World.drew _)
      have hHeld := (show Below wb.heap.size wb (World.drew wb) from (Below.refl _ _).drew)
      refine' wpAnyH_take (i := 0) (v := _) rfl (by kernel_rfl) (by kernel_rfl) (by kernel_rfl) (fun _ _ _ h => h) (Or.inl ⟨by rfl, ?hy140001⟩) hHeld ?hn140001
      case hy140001 => (intro wz hSw; (try dsimp only at hSw); go_simp; first | done | with_reducible rfl)
      try simp only [List.getElem_toArray, List.getElem_cons_zero, List.getElem_cons_succ, Act.put, List.setIfInBounds_toArray, List.set_cons_zero, List.set_cons_succ]
      refine' wpAnyH_take (i := 1) (v := _) rfl (by kernel_rfl) (by kernel_rfl) (by kernel_rfl) (fun _ _ _ h => h) (Or.inl ⟨by rfl, ?hy140002⟩) hHeld ?hn140002
      case hy140002 => (intro wz hSw; (try dsimp only at hSw); go_simp; first | done | with_reducible rfl)
      try simp only [List.getElem_toArray, List.getElem_cons_zero, List.getElem_cons_succ, Act.put, List.setIfInBounds_toArray, List.set_cons_zero, List.set_cons_succ]
      refine' wpAnyH_take (i := 2) (v := (.bool true)) rfl (by kernel_rfl) (by kernel_rfl) (by kernel_rfl) (fun _ _ _ h => h) (Or.inl ⟨by rfl, ?hy140003⟩) hHeld ?hn140003
      case hy140003 => (intro wz hSw; go_simp; first | done | (simp; done) | (simp; omega) | omega)
      try simp only [List.getElem_toArray, List.getElem_cons_zero, List.getElem_cons_succ, Act.put, List.setIfInBounds_toArray, List.set_cons_zero, List.set_cons_succ]
      refine' wpAnyH_take (i := 3) (v := _) rfl (by kernel_rfl) (by kernel_rfl) (by kernel_rfl) (fun _ _ _ h => h) (Or.inl ⟨by rfl, ?hy140004⟩) hHeld ?hn140004
      case hy140004 => (intro wz hSw; (try dsimp only at hSw); go_simp; first | done | with_reducible rfl)
      try simp only [List.getElem_toArray, List.getElem_cons_zero, List.getElem_cons_succ, Act.put, List.setIfInBounds_toArray, List.set_cons_zero, List.set_cons_succ]
      refine' wpAnyH_take (i := 4) (v := _) rfl (by kernel_rfl) (by kernel_rfl) (by kernel_rfl) (fun _ _ _ h => h) (Or.inl ⟨by rfl, ?hy140005⟩) hHeld ?hn140005
      case hy140005 => (intro wz hSw; (try dsimp only at hSw); go_simp; first | done | with_reducible rfl)
      try simp only [List.getElem_toArray, List.getElem_cons_zero, List.getElem_cons_succ, Act.put, List.setIfInBounds_toArray, List.set_cons_zero, List.set_cons_succ]
      refine' wpAnyH_take (i := 5) (v := _) rfl (by kernel_rfl) (by kernel_rfl) (by kernel_rfl) (fun _ _ _ h => h) (Or.inl ⟨by rfl, ?hy140006⟩) hHeld ?hn140006
      case hy140006 => (intro wz hSw; (try dsimp only at hSw); go_simp; first | done | with_reducible rfl)
      try simp only [List.getElem_toArray, List.getElem_cons_zero, List.getElem_cons_succ, Act.put, List.setIfInBounds_toArray, List.set_cons_zero, List.set_cons_succ]
      refine' wpAnyH_take (i := 6) (v := (.bool true)) rfl (by kernel_rfl) (by kernel_rfl) (by kernel_rfl) (fun _ _ _ h => h) (Or.inl ⟨by rfl, ?hy140007⟩) hHeld ?hn140007
      case hy140007 => (intro wz hSw; go_simp; first | done | (simp; done) | (simp; omega) | omega)
      try simp only [List.getElem_toArray, List.getElem_cons_zero, List.getElem_cons_succ, Act.put, List.setIfInBounds_toArray, List.set_cons_zero, List.set_cons_succ]
      refine' wpAnyH_take (i := 7) (v := _) rfl (by kernel_rfl) (by kernel_rfl) (by kernel_rfl) (fun _ _ _ h => h) (Or.inl ⟨by rfl, ?hy140008⟩) hHeld ?hn140008
      case hy140008 => (intro wz hSw; (try dsimp only at hSw); go_simp; first | done | with_reducible rfl)
      try simp only [List.getElem_toArray, List.getElem_cons_zero, List.getElem_cons_succ, Act.put, List.setIfInBounds_toArray, List.set_cons_zero, List.set_cons_succ]
      refine' wpAnyH_take (i := 8) (v := _) rfl (by kernel_rfl) (by kernel_rfl) (by kernel_rfl) (fun _ _ _ h => h) (Or.inl ⟨by rfl, ?hy140009⟩) hHeld ?hn140009
      case hy140009 => (intro wz hSw; (try dsimp only at hSw); go_simp; first | done | with_reducible rfl)
      try simp only [List.getElem_toArray, List.getElem_cons_zero, List.getElem_cons_succ, Act.put, List.setIfInBounds_toArray, List.set_cons_zero, List.set_cons_succ]
      refine' wpAnyH_take (i := 9) (v := (.agg #[.slice la ls.length lc, .slice sa l.length sc])) rfl (by kernel_rfl) (by kernel_rfl) (by kernel_rfl) (fun _ _ _ h => h) (Or.inl ⟨by rfl, ?hy140010⟩) hHeld ?hn140010
      case hy140010 => (intro wz hSw; have j0 := cell_later hSw p0; have j1 := cell_later hSw p1; go_simp)
      try simp only [List.getElem_toArray, List.getElem_cons_zero, List.getElem_cons_succ, Act.put, List.setIfInBounds_toArray, List.set_cons_zero, List.set_cons_succ]
      refine wpAnyH_ready (rs := [10]) (by kernel_rfl) (by simp) ?_
      refine AllReadyH.cons rfl (fun K hK => ?_) AllReadyH.nil
      go_simp
      refine Calls.mono (HPS.out _ (Below.then BWb.out hHeld BWb.out.size)) ?_; rintro e' y1 ⟨rfl, hbx⟩
      refine hK.out _ _ (Below.then hHeld hbx hHeld.size) (fun hHeld => ?_)
      clear hK K
      refine' wpAnyH_take (i := 11) (v := (.bool false)) rfl (by kernel_rfl) (by kernel_rfl) (by kernel_rfl) (fun _ _ _ h => h) (Or.inl ⟨by rfl, ?hy140011⟩) hHeld ?hn140011
      case hy140011 => (intro wz hSw; go_simp; first | done | (simp; done) | (simp; omega) | omega)
      try simp only [List.getElem_toArray, List.getElem_cons_zero, List.getElem_cons_succ, Act.put, List.setIfInBounds_toArray, List.set_cons_zero, List.set_cons_succ]
      refine' wpAnyH_take (i := 12) (v := (.bool false)) rfl (by kernel_rfl) (by kernel_rfl) (by kernel_rfl) (fun _ _ _ h => h) (Or.inl ⟨by rfl, ?hy140012⟩) hHeld ?hn140012
      case hy140012 => (intro wz hSw; go_simp; first | done | (simp; done) | (simp; omega) | omega)
      try simp only [List.getElem_toArray, List.getElem_cons_zero, List.getElem_cons_succ, Act.put, List.setIfInBounds_toArray, List.set_cons_zero, List.set_cons_succ]
      refine' wpAnyH_take (i := 13) (v := (.bool true)) rfl (by kernel_rfl) (by kernel_rfl) (by kernel_rfl) (fun _ _ _ h => h) (Or.inl ⟨by rfl, ?hy140013⟩) hHeld ?hn140013
      case hy140013 => (intro wz hSw; go_simp; first | done | (simp; done) | (simp; omega) | omega)
      try simp only [List.getElem_toArray, List.getElem_cons_zero, List.getElem_cons_succ, Act.put, List.setIfInBounds_toArray, List.set_cons_zero, List.set_cons_succ]
      refine' wpAnyH_take (i := 14) (v := (.bool true)) rfl (by kernel_rfl) (by kernel_rfl) (by kernel_rfl) (fun _ _ _ h => h) (Or.inl ⟨by rfl, ?hy140014⟩) hHeld ?hn140014
      case hy140014 => (intro wz hSw; go_simp; first | done | (simp; done) | (simp; omega) | omega)
      try simp only [List.getElem_toArray, List.getElem_cons_zero, List.getElem_cons_succ, Act.put, List.setIfInBounds_toArray, List.set_cons_zero, List.set_cons_succ]
      refine' wpAnyH_take (i := 15) (v := _) rfl (by kernel_rfl) (by kernel_rfl) (by kernel_rfl) (fun _ _ _ h => h) (Or.inl ⟨by rfl, ?hy140015⟩) hHeld ?hn140015
      case hy140015 => (intro wz hSw; (try dsimp only at hSw); go_simp; first | done | with_reducible rfl)
      try simp only [List.getElem_toArray, List.getElem_cons_zero, List.getElem_cons_succ, Act.put, List.setIfInBounds_toArray, List.set_cons_zero, List.set_cons_succ]
      refine' wpAnyH_take (i := 16) (v := (.agg #[.slice la ls.length lc, .slice sa l.length sc])) rfl (by kernel_rfl) (by kernel_rfl) (by kernel_rfl) (fun _ _ _ h => h) (Or.inl ⟨by rfl, ?hy140016⟩) hHeld ?hn140016
      case hy140016 => (intro wz hSw; have j0 := cell_later hSw p0; have j1 := cell_later hSw p1; go_simp)
      try simp only [List.getElem_toArray, List.getElem_cons_zero, List.getElem_cons_succ, Act.put, List.setIfInBounds_toArray, List.set_cons_zero, List.set_cons_succ]
      refine' wpAnyH_take (i := 19) (v := (.agg #[.slice la ls.length lc, .slice sa l.length sc])) rfl (by kernel_rfl) (by kernel_rfl) (by kernel_rfl) (fun _ _ _ h => h) (Or.inl ⟨by rfl, ?hy140017⟩) hHeld ?hn140017
      case hy140017 => (intro wz hSw; have j0 := cell_later hSw p0; have j1 := cell_later hSw p1; go_simp)
      try simp only [List.getElem_toArray, List.getElem_cons_zero, List.getElem_cons_succ, Act.put, List.setIfInBounds_toArray, List.set_cons_zero, List.set_cons_succ]
      refine wpAnyH_ready (rs := [17]) (by kernel_rfl) (by simp) ?_
      refine AllReadyH.cons rfl (fun K hK => ?_) AllReadyH.nil
      go_simp
      refine Calls.mono (HAT.out _ (Below.then BWb.out hHeld BWb.out.size)) ?_; rintro e' y2 ⟨av, rfl, hbx, hao⟩; obtain ⟨aa, ac, rfl⟩ := rowt_slice hao; clear hao
      refine hK.out _ _ (Below.then hHeld hbx hHeld.size) (fun hHeld => ?_)
      clear hK K
      refine' wpAnyH_take (i := 18) (v := _) rfl (by kernel_rfl) (by kernel_rfl) (by kernel_rfl) (fun _ _ _ h => h) (Or.inl ⟨by rfl, ?hy140018⟩) hHeld ?hn140018
      case hy140018 => (intro wz hSw; (try dsimp only at hSw); go_simp; first | done | with_reducible rfl)
      try simp only [List.getElem_toArray, List.getElem_cons_zero, List.getElem_cons_succ, Act.put, List.setIfInBounds_toArray, List.set_cons_zero, List.set_cons_succ]
      refine wpAnyH_ready (rs := [20]) (by kernel_rfl) (by simp) ?_
      refine AllReadyH.cons rfl (fun K hK => ?_) AllReadyH.nil
      go_simp
      refine Calls.mono (HPS.out _ (Below.then BWb.out hHeld BWb.out.size)) ?_; rintro e' y3 ⟨rfl, hbx⟩
      refine hK.out _ _ (Below.then hHeld hbx hHeld.size) (fun hHeld => ?_)
      clear hK K
      refine' wpAnyH_take (i := 21) (v := (.int .i64 0)) rfl (by kernel_rfl) (by kernel_rfl) (by kernel_rfl) (fun _ _ _ h => h) (Or.inl ⟨by rfl, ?hy140019⟩) hHeld ?hn140019
      case hy140019 => (intro wz hSw; go_simp; first | done | (simp; done) | (simp; omega) | omega)
      try simp only [List.getElem_toArray, List.getElem_cons_zero, List.getElem_cons_succ, Act.put, List.setIfInBounds_toArray, List.set_cons_zero, List.set_cons_succ]
      refine' wpAnyH_take (i := 22) (v := (.bool true)) rfl (by kernel_rfl) (by kernel_rfl) (by kernel_rfl) (fun _ _ _ h => h) (Or.inl ⟨by rfl, ?hy140020⟩) hHeld ?hn140020
      case hy140020 => (intro wz hSw; go_simp; first | done | (simp; done) | (simp; omega) | omega)
      try simp only [List.getElem_toArray, List.getElem_cons_zero, List.getElem_cons_succ, Act.put, List.setIfInBounds_toArray, List.set_cons_zero, List.set_cons_succ]
      refine' wpAnyH_take (i := 23) (v := (.bool true)) rfl (by kernel_rfl) (by kernel_rfl) (by kernel_rfl) (fun _ _ _ h => h) (Or.inl ⟨by rfl, ?hy140021⟩) hHeld ?hn140021
      case hy140021 => (intro wz hSw; go_simp; first | done | (simp; done) | (simp; omega) | omega)
      try simp only [List.getElem_toArray, List.getElem_cons_zero, List.getElem_cons_succ, Act.put, List.setIfInBounds_toArray, List.set_cons_zero, List.set_cons_succ]
      refine' wpAnyH_take (i := 24) (v := _) rfl (by kernel_rfl) (by kernel_rfl) (by kernel_rfl) (fun _ _ _ h => h) (Or.inl ⟨by rfl, ?hy140022⟩) hHeld ?hn140022
      case hy140022 => (intro wz hSw; (try dsimp only at hSw); go_simp; first | done | with_reducible rfl)
      try simp only [List.getElem_toArray, List.getElem_cons_zero, List.getElem_cons_succ, Act.put, List.setIfInBounds_toArray, List.set_cons_zero, List.set_cons_succ]
      refine' wpAnyH_take (i := 25) (v := (.agg #[.slice la ls.length lc, .slice sa l.length sc])) rfl (by kernel_rfl) (by kernel_rfl) (by kernel_rfl) (fun _ _ _ h => h) (Or.inl ⟨by rfl, ?hy140023⟩) hHeld ?hn140023
      case hy140023 => (intro wz hSw; have j0 := cell_later hSw p0; have j1 := cell_later hSw p1; go_simp)
      try simp only [List.getElem_toArray, List.getElem_cons_zero, List.getElem_cons_succ, Act.put, List.setIfInBounds_toArray, List.set_cons_zero, List.set_cons_succ]
      refine' wpAnyH_take (i := 28) (v := (.agg #[.slice la ls.length lc, .slice sa l.length sc])) rfl (by kernel_rfl) (by kernel_rfl) (by kernel_rfl) (fun _ _ _ h => h) (Or.inl ⟨by rfl, ?hy140024⟩) hHeld ?hn140024
      case hy140024 => (intro wz hSw; have j0 := cell_later hSw p0; have j1 := cell_later hSw p1; go_simp)
      try simp only [List.getElem_toArray, List.getElem_cons_zero, List.getElem_cons_succ, Act.put, List.setIfInBounds_toArray, List.set_cons_zero, List.set_cons_succ]
      refine wpAnyH_ready (rs := [26]) (by kernel_rfl) (by simp) ?_
      refine AllReadyH.cons rfl (fun K hK => ?_) AllReadyH.nil
      go_simp
      refine Calls.mono (HSE.out _ (Below.then BWb.out hHeld BWb.out.size)) ?_; rintro e' y4 ⟨gv, rfl, hbx, hgo⟩; obtain ⟨ga, gc, rfl⟩ := rowt_slice hgo; clear hgo
      refine hK.out _ _ (Below.then hHeld hbx hHeld.size) (fun hHeld => ?_)
      clear hK K
      refine' wpAnyH_take (i := 27) (v := _) rfl (by kernel_rfl) (by kernel_rfl) (by kernel_rfl) (fun _ _ _ h => h) (Or.inl ⟨by rfl, ?hy140025⟩) hHeld ?hn140025
      case hy140025 => (intro wz hSw; (try dsimp only at hSw); go_simp; first | done | with_reducible rfl)
      try simp only [List.getElem_toArray, List.getElem_cons_zero, List.getElem_cons_succ, Act.put, List.setIfInBounds_toArray, List.set_cons_zero, List.set_cons_succ]
      refine wpAnyH_ready (rs := [29]) (by kernel_rfl) (by simp) ?_
      refine AllReadyH.cons rfl (fun K hK => ?_) AllReadyH.nil
      go_simp
      refine Calls.mono (HPS.out _ (Below.then BWb.out hHeld BWb.out.size)) ?_; rintro e' y5 ⟨rfl, hbx⟩
      refine hK.out _ _ (Below.then hHeld hbx hHeld.size) (fun hHeld => ?_)
      clear hK K
      refine' wpAnyH_take (i := 30) (v := (.int .i64 0)) rfl (by kernel_rfl) (by kernel_rfl) (by kernel_rfl) (fun _ _ _ h => h) (Or.inl ⟨by rfl, ?hy140026⟩) hHeld ?hn140026
      case hy140026 => (intro wz hSw; go_simp; first | done | (simp; done) | (simp; omega) | omega)
      try simp only [List.getElem_toArray, List.getElem_cons_zero, List.getElem_cons_succ, Act.put, List.setIfInBounds_toArray, List.set_cons_zero, List.set_cons_succ]
      refine' wpAnyH_take (i := 31) (v := (.bool true)) rfl (by kernel_rfl) (by kernel_rfl) (by kernel_rfl) (fun _ _ _ h => h) (Or.inl ⟨by rfl, ?hy140027⟩) hHeld ?hn140027
      case hy140027 => (intro wz hSw; go_simp; first | done | (simp; done) | (simp; omega) | omega)
      try simp only [List.getElem_toArray, List.getElem_cons_zero, List.getElem_cons_succ, Act.put, List.setIfInBounds_toArray, List.set_cons_zero, List.set_cons_succ]
      refine' wpAnyH_take (i := 32) (v := (.bool true)) rfl (by kernel_rfl) (by kernel_rfl) (by kernel_rfl) (fun _ _ _ h => h) (Or.inl ⟨by rfl, ?hy140028⟩) hHeld ?hn140028
      case hy140028 => (intro wz hSw; go_simp; first | done | (simp; done) | (simp; omega) | omega)
      try simp only [List.getElem_toArray, List.getElem_cons_zero, List.getElem_cons_succ, Act.put, List.setIfInBounds_toArray, List.set_cons_zero, List.set_cons_succ]
      refine' wpAnyH_take (i := 33) (v := _) rfl (by kernel_rfl) (by kernel_rfl) (by kernel_rfl) (fun _ _ _ h => h) (Or.inl ⟨by rfl, ?hy140029⟩) hHeld ?hn140029
      case hy140029 => (intro wz hSw; (try dsimp only at hSw); go_simp; first | done | with_reducible rfl)
      try simp only [List.getElem_toArray, List.getElem_cons_zero, List.getElem_cons_succ, Act.put, List.setIfInBounds_toArray, List.set_cons_zero, List.set_cons_succ]
      refine wpAnyH_done (by kernel_rfl) ?_ _
      have HBF : Hid (Below w1.heap.size w1 y5) := Below.then BWb.out hHeld BWb.out.size
      clear hHeld p0 p1
      go_wp2
      exact bodyPost_ret (v := .bool true) (by simp [results, Tryd.results10, go_sem]) rfl ⟨rfl, HB1.out.trans (HBF.out.mono HB1.out.size)⟩
    · have hnm : ¬ (0 ≤ n) := hn0
      go_wp2_with fail
      rw [← HWB.out]
      clear HWB
      refine wp_region_held (S := (fun wz => Below wb.heap.size wb wz)) (by kernel_rfl) ?_
      change wpAnyH _ _ _ _ _ _ _ _ (World.drew _)
      have hHeld := (show Below wb.heap.size wb (World.drew wb) from (Below.refl _ _).drew)
      refine' wpAnyH_take (i := 0) (v := _) rfl (by kernel_rfl) (by kernel_rfl) (by kernel_rfl) (fun _ _ _ h => h) (Or.inl ⟨by rfl, ?hy140030⟩) hHeld ?hn140030
      case hy140030 => (intro wz hSw; (try dsimp only at hSw); go_simp; first | done | with_reducible rfl)
      try simp only [List.getElem_toArray, List.getElem_cons_zero, List.getElem_cons_succ, Act.put, List.setIfInBounds_toArray, List.set_cons_zero, List.set_cons_succ]
      refine' wpAnyH_take (i := 1) (v := _) rfl (by kernel_rfl) (by kernel_rfl) (by kernel_rfl) (fun _ _ _ h => h) (Or.inl ⟨by rfl, ?hy140031⟩) hHeld ?hn140031
      case hy140031 => (intro wz hSw; (try dsimp only at hSw); go_simp; first | done | with_reducible rfl)
      try simp only [List.getElem_toArray, List.getElem_cons_zero, List.getElem_cons_succ, Act.put, List.setIfInBounds_toArray, List.set_cons_zero, List.set_cons_succ]
      refine' wpAnyH_take (i := 2) (v := (.bool true)) rfl (by kernel_rfl) (by kernel_rfl) (by kernel_rfl) (fun _ _ _ h => h) (Or.inl ⟨by rfl, ?hy140032⟩) hHeld ?hn140032
      case hy140032 => (intro wz hSw; go_simp; first | done | (simp; done) | (simp; omega) | omega)
      try simp only [List.getElem_toArray, List.getElem_cons_zero, List.getElem_cons_succ, Act.put, List.setIfInBounds_toArray, List.set_cons_zero, List.set_cons_succ]
      refine' wpAnyH_take (i := 3) (v := _) rfl (by kernel_rfl) (by kernel_rfl) (by kernel_rfl) (fun _ _ _ h => h) (Or.inl ⟨by rfl, ?hy140033⟩) hHeld ?hn140033
      case hy140033 => (intro wz hSw; (try dsimp only at hSw); go_simp; first | done | with_reducible rfl)
      try simp only [List.getElem_toArray, List.getElem_cons_zero, List.getElem_cons_succ, Act.put, List.setIfInBounds_toArray, List.set_cons_zero, List.set_cons_succ]
      refine' wpAnyH_take (i := 4) (v := _) rfl (by kernel_rfl) (by kernel_rfl) (by kernel_rfl) (fun _ _ _ h => h) (Or.inl ⟨by rfl, ?hy140034⟩) hHeld ?hn140034
      case hy140034 => (intro wz hSw; (try dsimp only at hSw); go_simp; first | done | with_reducible rfl)
      try simp only [List.getElem_toArray, List.getElem_cons_zero, List.getElem_cons_succ, Act.put, List.setIfInBounds_toArray, List.set_cons_zero, List.set_cons_succ]
      refine' wpAnyH_take (i := 5) (v := _) rfl (by kernel_rfl) (by kernel_rfl) (by kernel_rfl) (fun _ _ _ h => h) (Or.inl ⟨by rfl, ?hy140035⟩) hHeld ?hn140035
      case hy140035 => (intro wz hSw; (try dsimp only at hSw); go_simp; first | done | with_reducible rfl)
      try simp only [List.getElem_toArray, List.getElem_cons_zero, List.getElem_cons_succ, Act.put, List.setIfInBounds_toArray, List.set_cons_zero, List.set_cons_succ]
      refine' wpAnyH_take (i := 6) (v := (.bool false)) rfl (by kernel_rfl) (by kernel_rfl) (by kernel_rfl) (fun _ _ _ h => h) (Or.inl ⟨by rfl, ?hy140036⟩) hHeld ?hn140036
      case hy140036 => (intro wz hSw; go_simp; first | done | (simp; done) | (simp; omega) | omega)
      try simp only [List.getElem_toArray, List.getElem_cons_zero, List.getElem_cons_succ, Act.put, List.setIfInBounds_toArray, List.set_cons_zero, List.set_cons_succ]
      refine' wpAnyH_take (i := 7) (v := _) rfl (by kernel_rfl) (by kernel_rfl) (by kernel_rfl) (fun _ _ _ h => h) (Or.inl ⟨by rfl, ?hy140037⟩) hHeld ?hn140037
      case hy140037 => (intro wz hSw; (try dsimp only at hSw); go_simp; first | done | with_reducible rfl)
      try simp only [List.getElem_toArray, List.getElem_cons_zero, List.getElem_cons_succ, Act.put, List.setIfInBounds_toArray, List.set_cons_zero, List.set_cons_succ]
      refine' wpAnyH_take (i := 8) (v := undef) rfl (by kernel_rfl) (by kernel_rfl) (by kernel_rfl) (fun _ _ _ h => h) (Or.inr ⟨by rfl, rfl⟩) hHeld ?hn140038
      try simp only [List.getElem_toArray, List.getElem_cons_zero, List.getElem_cons_succ, Act.put, List.setIfInBounds_toArray, List.set_cons_zero, List.set_cons_succ]
      refine' wpAnyH_take (i := 9) (v := undef) rfl (by kernel_rfl) (by kernel_rfl) (by kernel_rfl) (fun _ _ _ h => h) (Or.inr ⟨by rfl, rfl⟩) hHeld ?hn140039
      try simp only [List.getElem_toArray, List.getElem_cons_zero, List.getElem_cons_succ, Act.put, List.setIfInBounds_toArray, List.set_cons_zero, List.set_cons_succ]
      refine' wpAnyH_take (i := 10) (v := undef) rfl (by kernel_rfl) (by kernel_rfl) (by kernel_rfl) (fun _ _ _ h => h) (Or.inr ⟨by rfl, rfl⟩) hHeld ?hn140040
      try simp only [List.getElem_toArray, List.getElem_cons_zero, List.getElem_cons_succ, Act.put, List.setIfInBounds_toArray, List.set_cons_zero, List.set_cons_succ]
      refine' wpAnyH_take (i := 11) (v := undef) rfl (by kernel_rfl) (by kernel_rfl) (by kernel_rfl) (fun _ _ _ h => h) (Or.inr ⟨by rfl, rfl⟩) hHeld ?hn140041
      try simp only [List.getElem_toArray, List.getElem_cons_zero, List.getElem_cons_succ, Act.put, List.setIfInBounds_toArray, List.set_cons_zero, List.set_cons_succ]
      refine' wpAnyH_take (i := 12) (v := (.bool false)) rfl (by kernel_rfl) (by kernel_rfl) (by kernel_rfl) (fun _ _ _ h => h) (Or.inl ⟨by rfl, ?hy140042⟩) hHeld ?hn140042
      case hy140042 => (intro wz hSw; go_simp; first | done | (simp; done) | (simp; omega) | omega)
      try simp only [List.getElem_toArray, List.getElem_cons_zero, List.getElem_cons_succ, Act.put, List.setIfInBounds_toArray, List.set_cons_zero, List.set_cons_succ]
      refine' wpAnyH_take (i := 13) (v := (.bool true)) rfl (by kernel_rfl) (by kernel_rfl) (by kernel_rfl) (fun _ _ _ h => h) (Or.inl ⟨by rfl, ?hy140043⟩) hHeld ?hn140043
      case hy140043 => (intro wz hSw; go_simp; first | done | (simp; done) | (simp; omega) | omega)
      try simp only [List.getElem_toArray, List.getElem_cons_zero, List.getElem_cons_succ, Act.put, List.setIfInBounds_toArray, List.set_cons_zero, List.set_cons_succ]
      refine' wpAnyH_take (i := 14) (v := (.bool true)) rfl (by kernel_rfl) (by kernel_rfl) (by kernel_rfl) (fun _ _ _ h => h) (Or.inl ⟨by rfl, ?hy140044⟩) hHeld ?hn140044
      case hy140044 => (intro wz hSw; go_simp; first | done | (simp; done) | (simp; omega) | omega)
      try simp only [List.getElem_toArray, List.getElem_cons_zero, List.getElem_cons_succ, Act.put, List.setIfInBounds_toArray, List.set_cons_zero, List.set_cons_succ]
      refine' wpAnyH_take (i := 15) (v := _) rfl (by kernel_rfl) (by kernel_rfl) (by kernel_rfl) (fun _ _ _ h => h) (Or.inl ⟨by rfl, ?hy140045⟩) hHeld ?hn140045
      case hy140045 => (intro wz hSw; (try dsimp only at hSw); go_simp; first | done | with_reducible rfl)
      try simp only [List.getElem_toArray, List.getElem_cons_zero, List.getElem_cons_succ, Act.put, List.setIfInBounds_toArray, List.set_cons_zero, List.set_cons_succ]
      refine' wpAnyH_take (i := 16) (v := (.agg #[.slice la ls.length lc, .slice sa l.length sc])) rfl (by kernel_rfl) (by kernel_rfl) (by kernel_rfl) (fun _ _ _ h => h) (Or.inl ⟨by rfl, ?hy140046⟩) hHeld ?hn140046
      case hy140046 => (intro wz hSw; have j0 := cell_later hSw p0; have j1 := cell_later hSw p1; go_simp)
      try simp only [List.getElem_toArray, List.getElem_cons_zero, List.getElem_cons_succ, Act.put, List.setIfInBounds_toArray, List.set_cons_zero, List.set_cons_succ]
      refine' wpAnyH_take (i := 19) (v := (.agg #[.slice la ls.length lc, .slice sa l.length sc])) rfl (by kernel_rfl) (by kernel_rfl) (by kernel_rfl) (fun _ _ _ h => h) (Or.inl ⟨by rfl, ?hy140047⟩) hHeld ?hn140047
      case hy140047 => (intro wz hSw; have j0 := cell_later hSw p0; have j1 := cell_later hSw p1; go_simp)
      try simp only [List.getElem_toArray, List.getElem_cons_zero, List.getElem_cons_succ, Act.put, List.setIfInBounds_toArray, List.set_cons_zero, List.set_cons_succ]
      refine wpAnyH_ready (rs := [17]) (by kernel_rfl) (by simp) ?_
      refine AllReadyH.cons rfl (fun K hK => ?_) AllReadyH.nil
      go_simp
      refine Calls.mono (HAT.out _ (Below.then BWb.out hHeld BWb.out.size)) ?_; rintro e' y1 ⟨av, rfl, hbx, hao⟩; obtain ⟨aa, ac, rfl⟩ := rowt_slice hao; clear hao
      refine hK.out _ _ (Below.then hHeld hbx hHeld.size) (fun hHeld => ?_)
      clear hK K
      refine' wpAnyH_take (i := 18) (v := _) rfl (by kernel_rfl) (by kernel_rfl) (by kernel_rfl) (fun _ _ _ h => h) (Or.inl ⟨by rfl, ?hy140048⟩) hHeld ?hn140048
      case hy140048 => (intro wz hSw; (try dsimp only at hSw); go_simp; first | done | with_reducible rfl)
      try simp only [List.getElem_toArray, List.getElem_cons_zero, List.getElem_cons_succ, Act.put, List.setIfInBounds_toArray, List.set_cons_zero, List.set_cons_succ]
      refine wpAnyH_ready (rs := [20]) (by kernel_rfl) (by simp) ?_
      refine AllReadyH.cons rfl (fun K hK => ?_) AllReadyH.nil
      go_simp
      refine Calls.mono (HPS.out _ (Below.then BWb.out hHeld BWb.out.size)) ?_; rintro e' y2 ⟨rfl, hbx⟩
      refine hK.out _ _ (Below.then hHeld hbx hHeld.size) (fun hHeld => ?_)
      clear hK K
      refine' wpAnyH_take (i := 21) (v := (.int .i64 0)) rfl (by kernel_rfl) (by kernel_rfl) (by kernel_rfl) (fun _ _ _ h => h) (Or.inl ⟨by rfl, ?hy140049⟩) hHeld ?hn140049
      case hy140049 => (intro wz hSw; go_simp; first | done | (simp; done) | (simp; omega) | omega)
      try simp only [List.getElem_toArray, List.getElem_cons_zero, List.getElem_cons_succ, Act.put, List.setIfInBounds_toArray, List.set_cons_zero, List.set_cons_succ]
      refine' wpAnyH_take (i := 22) (v := (.bool true)) rfl (by kernel_rfl) (by kernel_rfl) (by kernel_rfl) (fun _ _ _ h => h) (Or.inl ⟨by rfl, ?hy140050⟩) hHeld ?hn140050
      case hy140050 => (intro wz hSw; go_simp; first | done | (simp; done) | (simp; omega) | omega)
      try simp only [List.getElem_toArray, List.getElem_cons_zero, List.getElem_cons_succ, Act.put, List.setIfInBounds_toArray, List.set_cons_zero, List.set_cons_succ]
      refine' wpAnyH_take (i := 23) (v := (.bool true)) rfl (by kernel_rfl) (by kernel_rfl) (by kernel_rfl) (fun _ _ _ h => h) (Or.inl ⟨by rfl, ?hy140051⟩) hHeld ?hn140051
      case hy140051 => (intro wz hSw; go_simp; first | done | (simp; done) | (simp; omega) | omega)
      try simp only [List.getElem_toArray, List.getElem_cons_zero, List.getElem_cons_succ, Act.put, List.setIfInBounds_toArray, List.set_cons_zero, List.set_cons_succ]
      refine' wpAnyH_take (i := 24) (v := _) rfl (by kernel_rfl) (by kernel_rfl) (by kernel_rfl) (fun _ _ _ h => h) (Or.inl ⟨by rfl, ?hy140052⟩) hHeld ?hn140052
      case hy140052 => (intro wz hSw; (try dsimp only at hSw); go_simp; first | done | with_reducible rfl)
      try simp only [List.getElem_toArray, List.getElem_cons_zero, List.getElem_cons_succ, Act.put, List.setIfInBounds_toArray, List.set_cons_zero, List.set_cons_succ]
      refine' wpAnyH_take (i := 25) (v := (.agg #[.slice la ls.length lc, .slice sa l.length sc])) rfl (by kernel_rfl) (by kernel_rfl) (by kernel_rfl) (fun _ _ _ h => h) (Or.inl ⟨by rfl, ?hy140053⟩) hHeld ?hn140053
      case hy140053 => (intro wz hSw; have j0 := cell_later hSw p0; have j1 := cell_later hSw p1; go_simp)
      try simp only [List.getElem_toArray, List.getElem_cons_zero, List.getElem_cons_succ, Act.put, List.setIfInBounds_toArray, List.set_cons_zero, List.set_cons_succ]
      refine' wpAnyH_take (i := 28) (v := (.agg #[.slice la ls.length lc, .slice sa l.length sc])) rfl (by kernel_rfl) (by kernel_rfl) (by kernel_rfl) (fun _ _ _ h => h) (Or.inl ⟨by rfl, ?hy140054⟩) hHeld ?hn140054
      case hy140054 => (intro wz hSw; have j0 := cell_later hSw p0; have j1 := cell_later hSw p1; go_simp)
      try simp only [List.getElem_toArray, List.getElem_cons_zero, List.getElem_cons_succ, Act.put, List.setIfInBounds_toArray, List.set_cons_zero, List.set_cons_succ]
      refine wpAnyH_ready (rs := [26]) (by kernel_rfl) (by simp) ?_
      refine AllReadyH.cons rfl (fun K hK => ?_) AllReadyH.nil
      go_simp
      refine Calls.mono (HSE.out _ (Below.then BWb.out hHeld BWb.out.size)) ?_; rintro e' y3 ⟨gv, rfl, hbx, hgo⟩; obtain ⟨ga, gc, rfl⟩ := rowt_slice hgo; clear hgo
      refine hK.out _ _ (Below.then hHeld hbx hHeld.size) (fun hHeld => ?_)
      clear hK K
      refine' wpAnyH_take (i := 27) (v := _) rfl (by kernel_rfl) (by kernel_rfl) (by kernel_rfl) (fun _ _ _ h => h) (Or.inl ⟨by rfl, ?hy140055⟩) hHeld ?hn140055
      case hy140055 => (intro wz hSw; (try dsimp only at hSw); go_simp; first | done | with_reducible rfl)
      try simp only [List.getElem_toArray, List.getElem_cons_zero, List.getElem_cons_succ, Act.put, List.setIfInBounds_toArray, List.set_cons_zero, List.set_cons_succ]
      refine wpAnyH_ready (rs := [29]) (by kernel_rfl) (by simp) ?_
      refine AllReadyH.cons rfl (fun K hK => ?_) AllReadyH.nil
      go_simp
      refine Calls.mono (HPS.out _ (Below.then BWb.out hHeld BWb.out.size)) ?_; rintro e' y4 ⟨rfl, hbx⟩
      refine hK.out _ _ (Below.then hHeld hbx hHeld.size) (fun hHeld => ?_)
      clear hK K
      refine' wpAnyH_take (i := 30) (v := (.int .i64 0)) rfl (by kernel_rfl) (by kernel_rfl) (by kernel_rfl) (fun _ _ _ h => h) (Or.inl ⟨by rfl, ?hy140056⟩) hHeld ?hn140056
      case hy140056 => (intro wz hSw; go_simp; first | done | (simp; done) | (simp; omega) | omega)
      try simp only [List.getElem_toArray, List.getElem_cons_zero, List.getElem_cons_succ, Act.put, List.setIfInBounds_toArray, List.set_cons_zero, List.set_cons_succ]
      refine' wpAnyH_take (i := 31) (v := (.bool true)) rfl (by kernel_rfl) (by kernel_rfl) (by kernel_rfl) (fun _ _ _ h => h) (Or.inl ⟨by rfl, ?hy140057⟩) hHeld ?hn140057
      case hy140057 => (intro wz hSw; go_simp; first | done | (simp; done) | (simp; omega) | omega)
      try simp only [List.getElem_toArray, List.getElem_cons_zero, List.getElem_cons_succ, Act.put, List.setIfInBounds_toArray, List.set_cons_zero, List.set_cons_succ]
      refine' wpAnyH_take (i := 32) (v := (.bool true)) rfl (by kernel_rfl) (by kernel_rfl) (by kernel_rfl) (fun _ _ _ h => h) (Or.inl ⟨by rfl, ?hy140058⟩) hHeld ?hn140058
      case hy140058 => (intro wz hSw; go_simp; first | done | (simp; done) | (simp; omega) | omega)
      try simp only [List.getElem_toArray, List.getElem_cons_zero, List.getElem_cons_succ, Act.put, List.setIfInBounds_toArray, List.set_cons_zero, List.set_cons_succ]
      refine' wpAnyH_take (i := 33) (v := _) rfl (by kernel_rfl) (by kernel_rfl) (by kernel_rfl) (fun _ _ _ h => h) (Or.inl ⟨by rfl, ?hy140059⟩) hHeld ?hn140059
      case hy140059 => (intro wz hSw; (try dsimp only at hSw); go_simp; first | done | with_reducible rfl)
      try simp only [List.getElem_toArray, List.getElem_cons_zero, List.getElem_cons_succ, Act.put, List.setIfInBounds_toArray, List.set_cons_zero, List.set_cons_succ]
      refine wpAnyH_done (by kernel_rfl) ?_ _
      have HBF : Hid (Below w1.heap.size w1 y4) := Below.then BWb.out hHeld BWb.out.size
      clear hHeld p0 p1
      go_wp2
      exact bodyPost_ret (v := .bool true) (by simp [results, Tryd.results10, go_sem]) rfl ⟨rfl, HB1.out.trans (HBF.out.mono HB1.out.size)⟩
  · have HPS : Hid (∀ wz, Below w1.heap.size w1 wz → Calls Tryd.prog 19 #[.agg #[.slice la ls.length lc, .slice sa l.length sc]] wz fun e w' => e = .returned (.int .i64 (c : Int)) ∧ Below wz.heap.size wz w') := HPS1.out
    simp only [if_true] at hxa hxb
    subst hxa
    simp only [Bool.true_and]
    clear HPS1
    have hc0 : (0 : Int) ≤ (xa.length : Int) := by omega
    have hmx : max (xa.length : Int) 0 = (xa.length : Int) := by omega
    by_cases hn0 : 0 ≤ n
    · by_cases hnc : n < (xa.length : Int)
      · have hvin : vIn (xa.length : Int) n = true := by simp [vIn, hn0, hnc]
        rw [hvin]
        go_wp2_with fail
        rw [← HWB.out]
        clear HWB
        refine wp_region_held (S := (fun wz => Below wb.heap.size wb wz)) (by kernel_rfl) ?_
        change wpAnyH _ _ _ _ _ _ _ _ (World.drew _)
        have hHeld := (show Below wb.heap.size wb (World.drew wb) from (Below.refl _ _).drew)
        refine' wpAnyH_take (i := 0) (v := _) rfl (by kernel_rfl) (by kernel_rfl) (by kernel_rfl) (fun _ _ _ h => h) (Or.inl ⟨by rfl, ?hy140060⟩) hHeld ?hn140060
        case hy140060 => (intro wz hSw; (try dsimp only at hSw); go_simp; first | done | with_reducible rfl)
        try simp only [List.getElem_toArray, List.getElem_cons_zero, List.getElem_cons_succ, Act.put, List.setIfInBounds_toArray, List.set_cons_zero, List.set_cons_succ]
        refine' wpAnyH_take (i := 1) (v := _) rfl (by kernel_rfl) (by kernel_rfl) (by kernel_rfl) (fun _ _ _ h => h) (Or.inl ⟨by rfl, ?hy140061⟩) hHeld ?hn140061
        case hy140061 => (intro wz hSw; (try dsimp only at hSw); go_simp; first | done | with_reducible rfl)
        try simp only [List.getElem_toArray, List.getElem_cons_zero, List.getElem_cons_succ, Act.put, List.setIfInBounds_toArray, List.set_cons_zero, List.set_cons_succ]
        refine' wpAnyH_take (i := 2) (v := (.bool true)) rfl (by kernel_rfl) (by kernel_rfl) (by kernel_rfl) (fun _ _ _ h => h) (Or.inl ⟨by rfl, ?hy140062⟩) hHeld ?hn140062
        case hy140062 => (intro wz hSw; go_simp; first | done | (simp; done) | (simp; omega) | omega)
        try simp only [List.getElem_toArray, List.getElem_cons_zero, List.getElem_cons_succ, Act.put, List.setIfInBounds_toArray, List.set_cons_zero, List.set_cons_succ]
        refine' wpAnyH_take (i := 3) (v := _) rfl (by kernel_rfl) (by kernel_rfl) (by kernel_rfl) (fun _ _ _ h => h) (Or.inl ⟨by rfl, ?hy140063⟩) hHeld ?hn140063
        case hy140063 => (intro wz hSw; (try dsimp only at hSw); go_simp; first | done | with_reducible rfl)
        try simp only [List.getElem_toArray, List.getElem_cons_zero, List.getElem_cons_succ, Act.put, List.setIfInBounds_toArray, List.set_cons_zero, List.set_cons_succ]
        refine' wpAnyH_take (i := 4) (v := _) rfl (by kernel_rfl) (by kernel_rfl) (by kernel_rfl) (fun _ _ _ h => h) (Or.inl ⟨by rfl, ?hy140064⟩) hHeld ?hn140064
        case hy140064 => (intro wz hSw; (try dsimp only at hSw); go_simp; first | done | with_reducible rfl)
        try simp only [List.getElem_toArray, List.getElem_cons_zero, List.getElem_cons_succ, Act.put, List.setIfInBounds_toArray, List.set_cons_zero, List.set_cons_succ]
        refine' wpAnyH_take (i := 5) (v := _) rfl (by kernel_rfl) (by kernel_rfl) (by kernel_rfl) (fun _ _ _ h => h) (Or.inl ⟨by rfl, ?hy140065⟩) hHeld ?hn140065
        case hy140065 => (intro wz hSw; (try dsimp only at hSw); go_simp; first | done | with_reducible rfl)
        try simp only [List.getElem_toArray, List.getElem_cons_zero, List.getElem_cons_succ, Act.put, List.setIfInBounds_toArray, List.set_cons_zero, List.set_cons_succ]
        refine' wpAnyH_take (i := 6) (v := (.bool true)) rfl (by kernel_rfl) (by kernel_rfl) (by kernel_rfl) (fun _ _ _ h => h) (Or.inl ⟨by rfl, ?hy140066⟩) hHeld ?hn140066
        case hy140066 => (intro wz hSw; go_simp; first | done | (simp; done) | (simp; omega) | omega)
        try simp only [List.getElem_toArray, List.getElem_cons_zero, List.getElem_cons_succ, Act.put, List.setIfInBounds_toArray, List.set_cons_zero, List.set_cons_succ]
        refine' wpAnyH_take (i := 7) (v := _) rfl (by kernel_rfl) (by kernel_rfl) (by kernel_rfl) (fun _ _ _ h => h) (Or.inl ⟨by rfl, ?hy140067⟩) hHeld ?hn140067
        case hy140067 => (intro wz hSw; (try dsimp only at hSw); go_simp; first | done | with_reducible rfl)
        try simp only [List.getElem_toArray, List.getElem_cons_zero, List.getElem_cons_succ, Act.put, List.setIfInBounds_toArray, List.set_cons_zero, List.set_cons_succ]
        refine' wpAnyH_take (i := 8) (v := _) rfl (by kernel_rfl) (by kernel_rfl) (by kernel_rfl) (fun _ _ _ h => h) (Or.inl ⟨by rfl, ?hy140068⟩) hHeld ?hn140068
        case hy140068 => (intro wz hSw; (try dsimp only at hSw); go_simp; first | done | with_reducible rfl)
        try simp only [List.getElem_toArray, List.getElem_cons_zero, List.getElem_cons_succ, Act.put, List.setIfInBounds_toArray, List.set_cons_zero, List.set_cons_succ]
        refine' wpAnyH_take (i := 9) (v := (.agg #[.slice la ls.length lc, .slice sa l.length sc])) rfl (by kernel_rfl) (by kernel_rfl) (by kernel_rfl) (fun _ _ _ h => h) (Or.inl ⟨by rfl, ?hy140069⟩) hHeld ?hn140069
        case hy140069 => (intro wz hSw; have j0 := cell_later hSw p0; have j1 := cell_later hSw p1; go_simp)
        try simp only [List.getElem_toArray, List.getElem_cons_zero, List.getElem_cons_succ, Act.put, List.setIfInBounds_toArray, List.set_cons_zero, List.set_cons_succ]
        refine wpAnyH_ready (rs := [10]) (by kernel_rfl) (by simp) ?_
        refine AllReadyH.cons rfl (fun K hK => ?_) AllReadyH.nil
        go_simp
        refine Calls.mono (HPS.out _ (Below.then BWb.out hHeld BWb.out.size)) ?_; rintro e' y1 ⟨rfl, hbx⟩
        refine hK.out _ _ (Below.then hHeld hbx hHeld.size) (fun hHeld => ?_)
        clear hK K
        refine' wpAnyH_take (i := 11) (v := (.bool true)) rfl (by kernel_rfl) (by kernel_rfl) (by kernel_rfl) (fun _ _ _ h => h) (Or.inl ⟨by rfl, ?hy140070⟩) hHeld ?hn140070
        case hy140070 => (intro wz hSw; go_simp; first | done | (simp; done) | (simp; omega) | omega)
        try simp only [List.getElem_toArray, List.getElem_cons_zero, List.getElem_cons_succ, Act.put, List.setIfInBounds_toArray, List.set_cons_zero, List.set_cons_succ]
        refine' wpAnyH_take (i := 12) (v := (.bool true)) rfl (by kernel_rfl) (by kernel_rfl) (by kernel_rfl) (fun _ _ _ h => h) (Or.inl ⟨by rfl, ?hy140071⟩) hHeld ?hn140071
        case hy140071 => (intro wz hSw; go_simp; first | done | (simp; done) | (simp; omega) | omega)
        try simp only [List.getElem_toArray, List.getElem_cons_zero, List.getElem_cons_succ, Act.put, List.setIfInBounds_toArray, List.set_cons_zero, List.set_cons_succ]
        refine' wpAnyH_take (i := 13) (v := (.bool true)) rfl (by kernel_rfl) (by kernel_rfl) (by kernel_rfl) (fun _ _ _ h => h) (Or.inl ⟨by rfl, ?hy140072⟩) hHeld ?hn140072
        case hy140072 => (intro wz hSw; go_simp; first | done | (simp; done) | (simp; omega) | omega)
        try simp only [List.getElem_toArray, List.getElem_cons_zero, List.getElem_cons_succ, Act.put, List.setIfInBounds_toArray, List.set_cons_zero, List.set_cons_succ]
        refine' wpAnyH_take (i := 14) (v := (.bool true)) rfl (by kernel_rfl) (by kernel_rfl) (by kernel_rfl) (fun _ _ _ h => h) (Or.inl ⟨by rfl, ?hy140073⟩) hHeld ?hn140073
        case hy140073 => (intro wz hSw; go_simp; first | done | (simp; done) | (simp; omega) | omega)
        try simp only [List.getElem_toArray, List.getElem_cons_zero, List.getElem_cons_succ, Act.put, List.setIfInBounds_toArray, List.set_cons_zero, List.set_cons_succ]
        refine' wpAnyH_take (i := 15) (v := _) rfl (by kernel_rfl) (by kernel_rfl) (by kernel_rfl) (fun _ _ _ h => h) (Or.inl ⟨by rfl, ?hy140074⟩) hHeld ?hn140074
        case hy140074 => (intro wz hSw; (try dsimp only at hSw); go_simp; first | done | with_reducible rfl)
        try simp only [List.getElem_toArray, List.getElem_cons_zero, List.getElem_cons_succ, Act.put, List.setIfInBounds_toArray, List.set_cons_zero, List.set_cons_succ]
        refine' wpAnyH_take (i := 16) (v := (.agg #[.slice la ls.length lc, .slice sa l.length sc])) rfl (by kernel_rfl) (by kernel_rfl) (by kernel_rfl) (fun _ _ _ h => h) (Or.inl ⟨by rfl, ?hy140075⟩) hHeld ?hn140075
        case hy140075 => (intro wz hSw; have j0 := cell_later hSw p0; have j1 := cell_later hSw p1; go_simp)
        try simp only [List.getElem_toArray, List.getElem_cons_zero, List.getElem_cons_succ, Act.put, List.setIfInBounds_toArray, List.set_cons_zero, List.set_cons_succ]
        refine' wpAnyH_take (i := 19) (v := (.agg #[.slice la ls.length lc, .slice sa l.length sc])) rfl (by kernel_rfl) (by kernel_rfl) (by kernel_rfl) (fun _ _ _ h => h) (Or.inl ⟨by rfl, ?hy140076⟩) hHeld ?hn140076
        case hy140076 => (intro wz hSw; have j0 := cell_later hSw p0; have j1 := cell_later hSw p1; go_simp)
        try simp only [List.getElem_toArray, List.getElem_cons_zero, List.getElem_cons_succ, Act.put, List.setIfInBounds_toArray, List.set_cons_zero, List.set_cons_succ]
        refine wpAnyH_ready (rs := [17]) (by kernel_rfl) (by simp) ?_
        refine AllReadyH.cons rfl (fun K hK => ?_) AllReadyH.nil
        go_simp
        refine Calls.mono (HAT.out _ (Below.then BWb.out hHeld BWb.out.size)) ?_; rintro e' y2 ⟨av, rfl, hbx, hao⟩; obtain ⟨aa, ac, rfl⟩ := rowt_slice hao; clear hao
        refine hK.out _ _ (Below.then hHeld hbx hHeld.size) (fun hHeld => ?_)
        clear hK K
        refine' wpAnyH_take (i := 18) (v := _) rfl (by kernel_rfl) (by kernel_rfl) (by kernel_rfl) (fun _ _ _ h => h) (Or.inl ⟨by rfl, ?hy140077⟩) hHeld ?hn140077
        case hy140077 => (intro wz hSw; (try dsimp only at hSw); go_simp; first | done | with_reducible rfl)
        try simp only [List.getElem_toArray, List.getElem_cons_zero, List.getElem_cons_succ, Act.put, List.setIfInBounds_toArray, List.set_cons_zero, List.set_cons_succ]
        refine wpAnyH_ready (rs := [20]) (by kernel_rfl) (by simp) ?_
        refine AllReadyH.cons rfl (fun K hK => ?_) AllReadyH.nil
        go_simp
        refine Calls.mono (HPS.out _ (Below.then BWb.out hHeld BWb.out.size)) ?_; rintro e' y3 ⟨rfl, hbx⟩
        refine hK.out _ _ (Below.then hHeld hbx hHeld.size) (fun hHeld => ?_)
        clear hK K
        refine' wpAnyH_take (i := 21) (v := (.int .i64 (xa.length : Int))) rfl (by kernel_rfl) (by kernel_rfl) (by kernel_rfl) (fun _ _ _ h => h) (Or.inl ⟨by rfl, ?hy140078⟩) hHeld ?hn140078
        case hy140078 => (intro wz hSw; go_simp; first | done | (simp; done) | (simp; omega) | omega)
        try simp only [List.getElem_toArray, List.getElem_cons_zero, List.getElem_cons_succ, Act.put, List.setIfInBounds_toArray, List.set_cons_zero, List.set_cons_succ]
        refine' wpAnyH_take (i := 22) (v := (.bool true)) rfl (by kernel_rfl) (by kernel_rfl) (by kernel_rfl) (fun _ _ _ h => h) (Or.inl ⟨by rfl, ?hy140079⟩) hHeld ?hn140079
        case hy140079 => (intro wz hSw; go_simp; first | done | (simp; done) | (simp; omega) | omega)
        try simp only [List.getElem_toArray, List.getElem_cons_zero, List.getElem_cons_succ, Act.put, List.setIfInBounds_toArray, List.set_cons_zero, List.set_cons_succ]
        refine' wpAnyH_take (i := 23) (v := (.bool true)) rfl (by kernel_rfl) (by kernel_rfl) (by kernel_rfl) (fun _ _ _ h => h) (Or.inl ⟨by rfl, ?hy140080⟩) hHeld ?hn140080
        case hy140080 => (intro wz hSw; go_simp; first | done | (simp; done) | (simp; omega) | omega)
        try simp only [List.getElem_toArray, List.getElem_cons_zero, List.getElem_cons_succ, Act.put, List.setIfInBounds_toArray, List.set_cons_zero, List.set_cons_succ]
        refine' wpAnyH_take (i := 24) (v := _) rfl (by kernel_rfl) (by kernel_rfl) (by kernel_rfl) (fun _ _ _ h => h) (Or.inl ⟨by rfl, ?hy140081⟩) hHeld ?hn140081
        case hy140081 => (intro wz hSw; (try dsimp only at hSw); go_simp; first | done | with_reducible rfl)
        try simp only [List.getElem_toArray, List.getElem_cons_zero, List.getElem_cons_succ, Act.put, List.setIfInBounds_toArray, List.set_cons_zero, List.set_cons_succ]
        refine' wpAnyH_take (i := 25) (v := (.agg #[.slice la ls.length lc, .slice sa l.length sc])) rfl (by kernel_rfl) (by kernel_rfl) (by kernel_rfl) (fun _ _ _ h => h) (Or.inl ⟨by rfl, ?hy140082⟩) hHeld ?hn140082
        case hy140082 => (intro wz hSw; have j0 := cell_later hSw p0; have j1 := cell_later hSw p1; go_simp)
        try simp only [List.getElem_toArray, List.getElem_cons_zero, List.getElem_cons_succ, Act.put, List.setIfInBounds_toArray, List.set_cons_zero, List.set_cons_succ]
        refine' wpAnyH_take (i := 28) (v := (.agg #[.slice la ls.length lc, .slice sa l.length sc])) rfl (by kernel_rfl) (by kernel_rfl) (by kernel_rfl) (fun _ _ _ h => h) (Or.inl ⟨by rfl, ?hy140083⟩) hHeld ?hn140083
        case hy140083 => (intro wz hSw; have j0 := cell_later hSw p0; have j1 := cell_later hSw p1; go_simp)
        try simp only [List.getElem_toArray, List.getElem_cons_zero, List.getElem_cons_succ, Act.put, List.setIfInBounds_toArray, List.set_cons_zero, List.set_cons_succ]
        refine wpAnyH_ready (rs := [26]) (by kernel_rfl) (by simp) ?_
        refine AllReadyH.cons rfl (fun K hK => ?_) AllReadyH.nil
        go_simp
        refine Calls.mono (HSE.out _ (Below.then BWb.out hHeld BWb.out.size)) ?_; rintro e' y4 ⟨gv, rfl, hbx, hgo⟩; obtain ⟨ga, gc, rfl⟩ := rowt_slice hgo; clear hgo
        refine hK.out _ _ (Below.then hHeld hbx hHeld.size) (fun hHeld => ?_)
        clear hK K
        refine' wpAnyH_take (i := 27) (v := _) rfl (by kernel_rfl) (by kernel_rfl) (by kernel_rfl) (fun _ _ _ h => h) (Or.inl ⟨by rfl, ?hy140084⟩) hHeld ?hn140084
        case hy140084 => (intro wz hSw; (try dsimp only at hSw); go_simp; first | done | with_reducible rfl)
        try simp only [List.getElem_toArray, List.getElem_cons_zero, List.getElem_cons_succ, Act.put, List.setIfInBounds_toArray, List.set_cons_zero, List.set_cons_succ]
        refine wpAnyH_ready (rs := [29]) (by kernel_rfl) (by simp) ?_
        refine AllReadyH.cons rfl (fun K hK => ?_) AllReadyH.nil
        go_simp
        refine Calls.mono (HPS.out _ (Below.then BWb.out hHeld BWb.out.size)) ?_; rintro e' y5 ⟨rfl, hbx⟩
        refine hK.out _ _ (Below.then hHeld hbx hHeld.size) (fun hHeld => ?_)
        clear hK K
        refine' wpAnyH_take (i := 30) (v := (.int .i64 (xa.length : Int))) rfl (by kernel_rfl) (by kernel_rfl) (by kernel_rfl) (fun _ _ _ h => h) (Or.inl ⟨by rfl, ?hy140085⟩) hHeld ?hn140085
        case hy140085 => (intro wz hSw; go_simp; first | done | (simp; done) | (simp; omega) | omega)
        try simp only [List.getElem_toArray, List.getElem_cons_zero, List.getElem_cons_succ, Act.put, List.setIfInBounds_toArray, List.set_cons_zero, List.set_cons_succ]
        refine' wpAnyH_take (i := 31) (v := (.bool true)) rfl (by kernel_rfl) (by kernel_rfl) (by kernel_rfl) (fun _ _ _ h => h) (Or.inl ⟨by rfl, ?hy140086⟩) hHeld ?hn140086
        case hy140086 => (intro wz hSw; go_simp; first | done | (simp; done) | (simp; omega) | omega)
        try simp only [List.getElem_toArray, List.getElem_cons_zero, List.getElem_cons_succ, Act.put, List.setIfInBounds_toArray, List.set_cons_zero, List.set_cons_succ]
        refine' wpAnyH_take (i := 32) (v := (.bool true)) rfl (by kernel_rfl) (by kernel_rfl) (by kernel_rfl) (fun _ _ _ h => h) (Or.inl ⟨by rfl, ?hy140087⟩) hHeld ?hn140087
        case hy140087 => (intro wz hSw; go_simp; first | done | (simp; done) | (simp; omega) | omega)
        try simp only [List.getElem_toArray, List.getElem_cons_zero, List.getElem_cons_succ, Act.put, List.setIfInBounds_toArray, List.set_cons_zero, List.set_cons_succ]
        refine' wpAnyH_take (i := 33) (v := _) rfl (by kernel_rfl) (by kernel_rfl) (by kernel_rfl) (fun _ _ _ h => h) (Or.inl ⟨by rfl, ?hy140088⟩) hHeld ?hn140088
        case hy140088 => (intro wz hSw; (try dsimp only at hSw); go_simp; first | done | with_reducible rfl)
        try simp only [List.getElem_toArray, List.getElem_cons_zero, List.getElem_cons_succ, Act.put, List.setIfInBounds_toArray, List.set_cons_zero, List.set_cons_succ]
        refine wpAnyH_done (by kernel_rfl) ?_ _
        have HBF : Hid (Below w1.heap.size w1 y5) := Below.then BWb.out hHeld BWb.out.size
        clear hHeld p0 p1
        go_wp2
        exact bodyPost_ret (v := .bool true) (by simp [results, Tryd.results10, go_sem]) rfl ⟨rfl, HB1.out.trans (HBF.out.mono HB1.out.size)⟩
      · have hvin : vIn (xa.length : Int) n = false := by simp [vIn]; omega
        rw [hvin]
        go_wp2_with fail
        rw [← HWB.out]
        clear HWB
        refine wp_region_held (S := (fun wz => Below wb.heap.size wb wz)) (by kernel_rfl) ?_
        change wpAnyH _ _ _ _ _ _ _ _ (World.drew _)
        have hHeld := (show Below wb.heap.size wb (World.drew wb) from (Below.refl _ _).drew)
        refine' wpAnyH_take (i := 0) (v := _) rfl (by kernel_rfl) (by kernel_rfl) (by kernel_rfl) (fun _ _ _ h => h) (Or.inl ⟨by rfl, ?hy140089⟩) hHeld ?hn140089
        case hy140089 => (intro wz hSw; (try dsimp only at hSw); go_simp; first | done | with_reducible rfl)
        try simp only [List.getElem_toArray, List.getElem_cons_zero, List.getElem_cons_succ, Act.put, List.setIfInBounds_toArray, List.set_cons_zero, List.set_cons_succ]
        refine' wpAnyH_take (i := 1) (v := _) rfl (by kernel_rfl) (by kernel_rfl) (by kernel_rfl) (fun _ _ _ h => h) (Or.inl ⟨by rfl, ?hy140090⟩) hHeld ?hn140090
        case hy140090 => (intro wz hSw; (try dsimp only at hSw); go_simp; first | done | with_reducible rfl)
        try simp only [List.getElem_toArray, List.getElem_cons_zero, List.getElem_cons_succ, Act.put, List.setIfInBounds_toArray, List.set_cons_zero, List.set_cons_succ]
        refine' wpAnyH_take (i := 2) (v := (.bool true)) rfl (by kernel_rfl) (by kernel_rfl) (by kernel_rfl) (fun _ _ _ h => h) (Or.inl ⟨by rfl, ?hy140091⟩) hHeld ?hn140091
        case hy140091 => (intro wz hSw; go_simp; first | done | (simp; done) | (simp; omega) | omega)
        try simp only [List.getElem_toArray, List.getElem_cons_zero, List.getElem_cons_succ, Act.put, List.setIfInBounds_toArray, List.set_cons_zero, List.set_cons_succ]
        refine' wpAnyH_take (i := 3) (v := _) rfl (by kernel_rfl) (by kernel_rfl) (by kernel_rfl) (fun _ _ _ h => h) (Or.inl ⟨by rfl, ?hy140092⟩) hHeld ?hn140092
        case hy140092 => (intro wz hSw; (try dsimp only at hSw); go_simp; first | done | with_reducible rfl)
        try simp only [List.getElem_toArray, List.getElem_cons_zero, List.getElem_cons_succ, Act.put, List.setIfInBounds_toArray, List.set_cons_zero, List.set_cons_succ]
        refine' wpAnyH_take (i := 4) (v := _) rfl (by kernel_rfl) (by kernel_rfl) (by kernel_rfl) (fun _ _ _ h => h) (Or.inl ⟨by rfl, ?hy140093⟩) hHeld ?hn140093
        case hy140093 => (intro wz hSw; (try dsimp only at hSw); go_simp; first | done | with_reducible rfl)
        try simp only [List.getElem_toArray, List.getElem_cons_zero, List.getElem_cons_succ, Act.put, List.setIfInBounds_toArray, List.set_cons_zero, List.set_cons_succ]
        refine' wpAnyH_take (i := 5) (v := _) rfl (by kernel_rfl) (by kernel_rfl) (by kernel_rfl) (fun _ _ _ h => h) (Or.inl ⟨by rfl, ?hy140094⟩) hHeld ?hn140094
        case hy140094 => (intro wz hSw; (try dsimp only at hSw); go_simp; first | done | with_reducible rfl)
        try simp only [List.getElem_toArray, List.getElem_cons_zero, List.getElem_cons_succ, Act.put, List.setIfInBounds_toArray, List.set_cons_zero, List.set_cons_succ]
        refine' wpAnyH_take (i := 6) (v := (.bool true)) rfl (by kernel_rfl) (by kernel_rfl) (by kernel_rfl) (fun _ _ _ h => h) (Or.inl ⟨by rfl, ?hy140095⟩) hHeld ?hn140095
        case hy140095 => (intro wz hSw; go_simp; first | done | (simp; done) | (simp; omega) | omega)
        try simp only [List.getElem_toArray, List.getElem_cons_zero, List.getElem_cons_succ, Act.put, List.setIfInBounds_toArray, List.set_cons_zero, List.set_cons_succ]
        refine' wpAnyH_take (i := 7) (v := _) rfl (by kernel_rfl) (by kernel_rfl) (by kernel_rfl) (fun _ _ _ h => h) (Or.inl ⟨by rfl, ?hy140096⟩) hHeld ?hn140096
        case hy140096 => (intro wz hSw; (try dsimp only at hSw); go_simp; first | done | with_reducible rfl)
        try simp only [List.getElem_toArray, List.getElem_cons_zero, List.getElem_cons_succ, Act.put, List.setIfInBounds_toArray, List.set_cons_zero, List.set_cons_succ]
        refine' wpAnyH_take (i := 8) (v := _) rfl (by kernel_rfl) (by kernel_rfl) (by kernel_rfl) (fun _ _ _ h => h) (Or.inl ⟨by rfl, ?hy140097⟩) hHeld ?hn140097
        case hy140097 => (intro wz hSw; (try dsimp only at hSw); go_simp; first | done | with_reducible rfl)
        try simp only [List.getElem_toArray, List.getElem_cons_zero, List.getElem_cons_succ, Act.put, List.setIfInBounds_toArray, List.set_cons_zero, List.set_cons_succ]
        refine' wpAnyH_take (i := 9) (v := (.agg #[.slice la ls.length lc, .slice sa l.length sc])) rfl (by kernel_rfl) (by kernel_rfl) (by kernel_rfl) (fun _ _ _ h => h) (Or.inl ⟨by rfl, ?hy140098⟩) hHeld ?hn140098
        case hy140098 => (intro wz hSw; have j0 := cell_later hSw p0; have j1 := cell_later hSw p1; go_simp)
        try simp only [List.getElem_toArray, List.getElem_cons_zero, List.getElem_cons_succ, Act.put, List.setIfInBounds_toArray, List.set_cons_zero, List.set_cons_succ]
        refine wpAnyH_ready (rs := [10]) (by kernel_rfl) (by simp) ?_
        refine AllReadyH.cons rfl (fun K hK => ?_) AllReadyH.nil
        go_simp
        refine Calls.mono (HPS.out _ (Below.then BWb.out hHeld BWb.out.size)) ?_; rintro e' y1 ⟨rfl, hbx⟩
        refine hK.out _ _ (Below.then hHeld hbx hHeld.size) (fun hHeld => ?_)
        clear hK K
        refine' wpAnyH_take (i := 11) (v := (.bool false)) rfl (by kernel_rfl) (by kernel_rfl) (by kernel_rfl) (fun _ _ _ h => h) (Or.inl ⟨by rfl, ?hy140099⟩) hHeld ?hn140099
        case hy140099 => (intro wz hSw; go_simp; first | done | (simp; done) | (simp; omega) | omega)
        try simp only [List.getElem_toArray, List.getElem_cons_zero, List.getElem_cons_succ, Act.put, List.setIfInBounds_toArray, List.set_cons_zero, List.set_cons_succ]
        refine' wpAnyH_take (i := 12) (v := (.bool false)) rfl (by kernel_rfl) (by kernel_rfl) (by kernel_rfl) (fun _ _ _ h => h) (Or.inl ⟨by rfl, ?hy140100⟩) hHeld ?hn140100
        case hy140100 => (intro wz hSw; go_simp; first | done | (simp; done) | (simp; omega) | omega)
        try simp only [List.getElem_toArray, List.getElem_cons_zero, List.getElem_cons_succ, Act.put, List.setIfInBounds_toArray, List.set_cons_zero, List.set_cons_succ]
        refine' wpAnyH_take (i := 13) (v := (.bool true)) rfl (by kernel_rfl) (by kernel_rfl) (by kernel_rfl) (fun _ _ _ h => h) (Or.inl ⟨by rfl, ?hy140101⟩) hHeld ?hn140101
        case hy140101 => (intro wz hSw; go_simp; first | done | (simp; done) | (simp; omega) | omega)
        try simp only [List.getElem_toArray, List.getElem_cons_zero, List.getElem_cons_succ, Act.put, List.setIfInBounds_toArray, List.set_cons_zero, List.set_cons_succ]
        refine' wpAnyH_take (i := 14) (v := (.bool true)) rfl (by kernel_rfl) (by kernel_rfl) (by kernel_rfl) (fun _ _ _ h => h) (Or.inl ⟨by rfl, ?hy140102⟩) hHeld ?hn140102
        case hy140102 => (intro wz hSw; go_simp; first | done | (simp; done) | (simp; omega) | omega)
        try simp only [List.getElem_toArray, List.getElem_cons_zero, List.getElem_cons_succ, Act.put, List.setIfInBounds_toArray, List.set_cons_zero, List.set_cons_succ]
        refine' wpAnyH_take (i := 15) (v := _) rfl (by kernel_rfl) (by kernel_rfl) (by kernel_rfl) (fun _ _ _ h => h) (Or.inl ⟨by rfl, ?hy140103⟩) hHeld ?hn140103
        case hy140103 => (intro wz hSw; (try dsimp only at hSw); go_simp; first | done | with_reducible rfl)
        try simp only [List.getElem_toArray, List.getElem_cons_zero, List.getElem_cons_succ, Act.put, List.setIfInBounds_toArray, List.set_cons_zero, List.set_cons_succ]
        refine' wpAnyH_take (i := 16) (v := (.agg #[.slice la ls.length lc, .slice sa l.length sc])) rfl (by kernel_rfl) (by kernel_rfl) (by kernel_rfl) (fun _ _ _ h => h) (Or.inl ⟨by rfl, ?hy140104⟩) hHeld ?hn140104
        case hy140104 => (intro wz hSw; have j0 := cell_later hSw p0; have j1 := cell_later hSw p1; go_simp)
        try simp only [List.getElem_toArray, List.getElem_cons_zero, List.getElem_cons_succ, Act.put, List.setIfInBounds_toArray, List.set_cons_zero, List.set_cons_succ]
        refine' wpAnyH_take (i := 19) (v := (.agg #[.slice la ls.length lc, .slice sa l.length sc])) rfl (by kernel_rfl) (by kernel_rfl) (by kernel_rfl) (fun _ _ _ h => h) (Or.inl ⟨by rfl, ?hy140105⟩) hHeld ?hn140105
        case hy140105 => (intro wz hSw; have j0 := cell_later hSw p0; have j1 := cell_later hSw p1; go_simp)
        try simp only [List.getElem_toArray, List.getElem_cons_zero, List.getElem_cons_succ, Act.put, List.setIfInBounds_toArray, List.set_cons_zero, List.set_cons_succ]
        refine wpAnyH_ready (rs := [17]) (by kernel_rfl) (by simp) ?_
        refine AllReadyH.cons rfl (fun K hK => ?_) AllReadyH.nil
        go_simp
        refine Calls.mono (HAT.out _ (Below.then BWb.out hHeld BWb.out.size)) ?_; rintro e' y2 ⟨av, rfl, hbx, hao⟩; obtain ⟨aa, ac, rfl⟩ := rowt_slice hao; clear hao
        refine hK.out _ _ (Below.then hHeld hbx hHeld.size) (fun hHeld => ?_)
        clear hK K
        refine' wpAnyH_take (i := 18) (v := _) rfl (by kernel_rfl) (by kernel_rfl) (by kernel_rfl) (fun _ _ _ h => h) (Or.inl ⟨by rfl, ?hy140106⟩) hHeld ?hn140106
        case hy140106 => (intro wz hSw; (try dsimp only at hSw); go_simp; first | done | with_reducible rfl)
        try simp only [List.getElem_toArray, List.getElem_cons_zero, List.getElem_cons_succ, Act.put, List.setIfInBounds_toArray, List.set_cons_zero, List.set_cons_succ]
        refine wpAnyH_ready (rs := [20]) (by kernel_rfl) (by simp) ?_
        refine AllReadyH.cons rfl (fun K hK => ?_) AllReadyH.nil
        go_simp
        refine Calls.mono (HPS.out _ (Below.then BWb.out hHeld BWb.out.size)) ?_; rintro e' y3 ⟨rfl, hbx⟩
        refine hK.out _ _ (Below.then hHeld hbx hHeld.size) (fun hHeld => ?_)
        clear hK K
        refine' wpAnyH_take (i := 21) (v := (.int .i64 (xa.length : Int))) rfl (by kernel_rfl) (by kernel_rfl) (by kernel_rfl) (fun _ _ _ h => h) (Or.inl ⟨by rfl, ?hy140107⟩) hHeld ?hn140107
        case hy140107 => (intro wz hSw; go_simp; first | done | (simp; done) | (simp; omega) | omega)
        try simp only [List.getElem_toArray, List.getElem_cons_zero, List.getElem_cons_succ, Act.put, List.setIfInBounds_toArray, List.set_cons_zero, List.set_cons_succ]
        refine' wpAnyH_take (i := 22) (v := (.bool true)) rfl (by kernel_rfl) (by kernel_rfl) (by kernel_rfl) (fun _ _ _ h => h) (Or.inl ⟨by rfl, ?hy140108⟩) hHeld ?hn140108
        case hy140108 => (intro wz hSw; go_simp; first | done | (simp; done) | (simp; omega) | omega)
        try simp only [List.getElem_toArray, List.getElem_cons_zero, List.getElem_cons_succ, Act.put, List.setIfInBounds_toArray, List.set_cons_zero, List.set_cons_succ]
        refine' wpAnyH_take (i := 23) (v := (.bool true)) rfl (by kernel_rfl) (by kernel_rfl) (by kernel_rfl) (fun _ _ _ h => h) (Or.inl ⟨by rfl, ?hy140109⟩) hHeld ?hn140109
        case hy140109 => (intro wz hSw; go_simp; first | done | (simp; done) | (simp; omega) | omega)
        try simp only [List.getElem_toArray, List.getElem_cons_zero, List.getElem_cons_succ, Act.put, List.setIfInBounds_toArray, List.set_cons_zero, List.set_cons_succ]
        refine' wpAnyH_take (i := 24) (v := _) rfl (by kernel_rfl) (by kernel_rfl) (by kernel_rfl) (fun _ _ _ h => h) (Or.inl ⟨by rfl, ?hy140110⟩) hHeld ?hn140110
        case hy140110 => (intro wz hSw; (try dsimp only at hSw); go_simp; first | done | with_reducible rfl)
        try simp only [List.getElem_toArray, List.getElem_cons_zero, List.getElem_cons_succ, Act.put, List.setIfInBounds_toArray, List.set_cons_zero, List.set_cons_succ]
        refine' wpAnyH_take (i := 25) (v := (.agg #[.slice la ls.length lc, .slice sa l.length sc])) rfl (by kernel_rfl) (by kernel_rfl) (by kernel_rfl) (fun _ _ _ h => h) (Or.inl ⟨by rfl, ?hy140111⟩) hHeld ?hn140111
        case hy140111 => (intro wz hSw; have j0 := cell_later hSw p0; have j1 := cell_later hSw p1; go_simp)
        try simp only [List.getElem_toArray, List.getElem_cons_zero, List.getElem_cons_succ, Act.put, List.setIfInBounds_toArray, List.set_cons_zero, List.set_cons_succ]
        refine' wpAnyH_take (i := 28) (v := (.agg #[.slice la ls.length lc, .slice sa l.length sc])) rfl (by kernel_rfl) (by kernel_rfl) (by kernel_rfl) (fun _ _ _ h => h) (Or.inl ⟨by rfl, ?hy140112⟩) hHeld ?hn140112
        case hy140112 => (intro wz hSw; have j0 := cell_later hSw p0; have j1 := cell_later hSw p1; go_simp)
        try simp only [List.getElem_toArray, List.getElem_cons_zero, List.getElem_cons_succ, Act.put, List.setIfInBounds_toArray, List.set_cons_zero, List.set_cons_succ]
        refine wpAnyH_ready (rs := [26]) (by kernel_rfl) (by simp) ?_
        refine AllReadyH.cons rfl (fun K hK => ?_) AllReadyH.nil
        go_simp
        refine Calls.mono (HSE.out _ (Below.then BWb.out hHeld BWb.out.size)) ?_; rintro e' y4 ⟨gv, rfl, hbx, hgo⟩; obtain ⟨ga, gc, rfl⟩ := rowt_slice hgo; clear hgo
        refine hK.out _ _ (Below.then hHeld hbx hHeld.size) (fun hHeld => ?_)
        clear hK K
        refine' wpAnyH_take (i := 27) (v := _) rfl (by kernel_rfl) (by kernel_rfl) (by kernel_rfl) (fun _ _ _ h => h) (Or.inl ⟨by rfl, ?hy140113⟩) hHeld ?hn140113
        case hy140113 => (intro wz hSw; (try dsimp only at hSw); go_simp; first | done | with_reducible rfl)
        try simp only [List.getElem_toArray, List.getElem_cons_zero, List.getElem_cons_succ, Act.put, List.setIfInBounds_toArray, List.set_cons_zero, List.set_cons_succ]
        refine wpAnyH_ready (rs := [29]) (by kernel_rfl) (by simp) ?_
        refine AllReadyH.cons rfl (fun K hK => ?_) AllReadyH.nil
        go_simp
        refine Calls.mono (HPS.out _ (Below.then BWb.out hHeld BWb.out.size)) ?_; rintro e' y5 ⟨rfl, hbx⟩
        refine hK.out _ _ (Below.then hHeld hbx hHeld.size) (fun hHeld => ?_)
        clear hK K
        refine' wpAnyH_take (i := 30) (v := (.int .i64 (xa.length : Int))) rfl (by kernel_rfl) (by kernel_rfl) (by kernel_rfl) (fun _ _ _ h => h) (Or.inl ⟨by rfl, ?hy140114⟩) hHeld ?hn140114
        case hy140114 => (intro wz hSw; go_simp; first | done | (simp; done) | (simp; omega) | omega)
        try simp only [List.getElem_toArray, List.getElem_cons_zero, List.getElem_cons_succ, Act.put, List.setIfInBounds_toArray, List.set_cons_zero, List.set_cons_succ]
        refine' wpAnyH_take (i := 31) (v := (.bool true)) rfl (by kernel_rfl) (by kernel_rfl) (by kernel_rfl) (fun _ _ _ h => h) (Or.inl ⟨by rfl, ?hy140115⟩) hHeld ?hn140115
        case hy140115 => (intro wz hSw; go_simp; first | done | (simp; done) | (simp; omega) | omega)
        try simp only [List.getElem_toArray, List.getElem_cons_zero, List.getElem_cons_succ, Act.put, List.setIfInBounds_toArray, List.set_cons_zero, List.set_cons_succ]
        refine' wpAnyH_take (i := 32) (v := (.bool true)) rfl (by kernel_rfl) (by kernel_rfl) (by kernel_rfl) (fun _ _ _ h => h) (Or.inl ⟨by rfl, ?hy140116⟩) hHeld ?hn140116
        case hy140116 => (intro wz hSw; go_simp; first | done | (simp; done) | (simp; omega) | omega)
        try simp only [List.getElem_toArray, List.getElem_cons_zero, List.getElem_cons_succ, Act.put, List.setIfInBounds_toArray, List.set_cons_zero, List.set_cons_succ]
        refine' wpAnyH_take (i := 33) (v := _) rfl (by kernel_rfl) (by kernel_rfl) (by kernel_rfl) (fun _ _ _ h => h) (Or.inl ⟨by rfl, ?hy140117⟩) hHeld ?hn140117
        case hy140117 => (intro wz hSw; (try dsimp only at hSw); go_simp; first | done | with_reducible rfl)
        try simp only [List.getElem_toArray, List.getElem_cons_zero, List.getElem_cons_succ, Act.put, List.setIfInBounds_toArray, List.set_cons_zero, List.set_cons_succ]
        refine wpAnyH_done (by kernel_rfl) ?_ _
        have HBF : Hid (Below w1.heap.size w1 y5) := Below.then BWb.out hHeld BWb.out.size
        clear hHeld p0 p1
        go_wp2
        exact bodyPost_ret (v := .bool true) (by simp [results, Tryd.results10, go_sem]) rfl ⟨rfl, HB1.out.trans (HBF.out.mono HB1.out.size)⟩
    · have hvin : vIn (xa.length : Int) n = false := by simp [vIn]; omega
      rw [hvin]
      go_wp2_with fail
      rw [← HWB.out]
      clear HWB
      refine wp_region_held (S := (fun wz => Below wb.heap.size wb wz)) (by kernel_rfl) ?_
      change wpAnyH _ _ _ _ _ _ _ _ (World.drew _)
      have hHeld := (show Below wb.heap.size wb (World.drew wb) from (Below.refl _ _).drew)
      refine' wpAnyH_take (i := 0) (v := _) rfl (by kernel_rfl) (by kernel_rfl) (by kernel_rfl) (fun _ _ _ h => h) (Or.inl ⟨by rfl, ?hy140118⟩) hHeld ?hn140118
      case hy140118 => (intro wz hSw; (try dsimp only at hSw); go_simp; first | done | with_reducible rfl)
      try simp only [List.getElem_toArray, List.getElem_cons_zero, List.getElem_cons_succ, Act.put, List.setIfInBounds_toArray, List.set_cons_zero, List.set_cons_succ]
      refine' wpAnyH_take (i := 1) (v := _) rfl (by kernel_rfl) (by kernel_rfl) (by kernel_rfl) (fun _ _ _ h => h) (Or.inl ⟨by rfl, ?hy140119⟩) hHeld ?hn140119
      case hy140119 => (intro wz hSw; (try dsimp only at hSw); go_simp; first | done | with_reducible rfl)
      try simp only [List.getElem_toArray, List.getElem_cons_zero, List.getElem_cons_succ, Act.put, List.setIfInBounds_toArray, List.set_cons_zero, List.set_cons_succ]
      refine' wpAnyH_take (i := 2) (v := (.bool true)) rfl (by kernel_rfl) (by kernel_rfl) (by kernel_rfl) (fun _ _ _ h => h) (Or.inl ⟨by rfl, ?hy140120⟩) hHeld ?hn140120
      case hy140120 => (intro wz hSw; go_simp; first | done | (simp; done) | (simp; omega) | omega)
      try simp only [List.getElem_toArray, List.getElem_cons_zero, List.getElem_cons_succ, Act.put, List.setIfInBounds_toArray, List.set_cons_zero, List.set_cons_succ]
      refine' wpAnyH_take (i := 3) (v := _) rfl (by kernel_rfl) (by kernel_rfl) (by kernel_rfl) (fun _ _ _ h => h) (Or.inl ⟨by rfl, ?hy140121⟩) hHeld ?hn140121
      case hy140121 => (intro wz hSw; (try dsimp only at hSw); go_simp; first | done | with_reducible rfl)
      try simp only [List.getElem_toArray, List.getElem_cons_zero, List.getElem_cons_succ, Act.put, List.setIfInBounds_toArray, List.set_cons_zero, List.set_cons_succ]
      refine' wpAnyH_take (i := 4) (v := _) rfl (by kernel_rfl) (by kernel_rfl) (by kernel_rfl) (fun _ _ _ h => h) (Or.inl ⟨by rfl, ?hy140122⟩) hHeld ?hn140122
      case hy140122 => (intro wz hSw; (try dsimp only at hSw); go_simp; first | done | with_reducible rfl)
      try simp only [List.getElem_toArray, List.getElem_cons_zero, List.getElem_cons_succ, Act.put, List.setIfInBounds_toArray, List.set_cons_zero, List.set_cons_succ]
      refine' wpAnyH_take (i := 5) (v := _) rfl (by kernel_rfl) (by kernel_rfl) (by kernel_rfl) (fun _ _ _ h => h) (Or.inl ⟨by rfl, ?hy140123⟩) hHeld ?hn140123
      case hy140123 => (intro wz hSw; (try dsimp only at hSw); go_simp; first | done | with_reducible rfl)
      try simp only [List.getElem_toArray, List.getElem_cons_zero, List.getElem_cons_succ, Act.put, List.setIfInBounds_toArray, List.set_cons_zero, List.set_cons_succ]
      refine' wpAnyH_take (i := 6) (v := (.bool false)) rfl (by kernel_rfl) (by kernel_rfl) (by kernel_rfl) (fun _ _ _ h => h) (Or.inl ⟨by rfl, ?hy140124⟩) hHeld ?hn140124
      case hy140124 => (intro wz hSw; go_simp; first | done | (simp; done) | (simp; omega) | omega)
      try simp only [List.getElem_toArray, List.getElem_cons_zero, List.getElem_cons_succ, Act.put, List.setIfInBounds_toArray, List.set_cons_zero, List.set_cons_succ]
      refine' wpAnyH_take (i := 7) (v := _) rfl (by kernel_rfl) (by kernel_rfl) (by kernel_rfl) (fun _ _ _ h => h) (Or.inl ⟨by rfl, ?hy140125⟩) hHeld ?hn140125
      case hy140125 => (intro wz hSw; (try dsimp only at hSw); go_simp; first | done | with_reducible rfl)
      try simp only [List.getElem_toArray, List.getElem_cons_zero, List.getElem_cons_succ, Act.put, List.setIfInBounds_toArray, List.set_cons_zero, List.set_cons_succ]
      refine' wpAnyH_take (i := 8) (v := undef) rfl (by kernel_rfl) (by kernel_rfl) (by kernel_rfl) (fun _ _ _ h => h) (Or.inr ⟨by rfl, rfl⟩) hHeld ?hn140126
      try simp only [List.getElem_toArray, List.getElem_cons_zero, List.getElem_cons_succ, Act.put, List.setIfInBounds_toArray, List.set_cons_zero, List.set_cons_succ]
      refine' wpAnyH_take (i := 9) (v := undef) rfl (by kernel_rfl) (by kernel_rfl) (by kernel_rfl) (fun _ _ _ h => h) (Or.inr ⟨by rfl, rfl⟩) hHeld ?hn140127
      try simp only [List.getElem_toArray, List.getElem_cons_zero, List.getElem_cons_succ, Act.put, List.setIfInBounds_toArray, List.set_cons_zero, List.set_cons_succ]
      refine' wpAnyH_take (i := 10) (v := undef) rfl (by kernel_rfl) (by kernel_rfl) (by kernel_rfl) (fun _ _ _ h => h) (Or.inr ⟨by rfl, rfl⟩) hHeld ?hn140128
      try simp only [List.getElem_toArray, List.getElem_cons_zero, List.getElem_cons_succ, Act.put, List.setIfInBounds_toArray, List.set_cons_zero, List.set_cons_succ]
      refine' wpAnyH_take (i := 11) (v := undef) rfl (by kernel_rfl) (by kernel_rfl) (by kernel_rfl) (fun _ _ _ h => h) (Or.inr ⟨by rfl, rfl⟩) hHeld ?hn140129
      try simp only [List.getElem_toArray, List.getElem_cons_zero, List.getElem_cons_succ, Act.put, List.setIfInBounds_toArray, List.set_cons_zero, List.set_cons_succ]
      refine' wpAnyH_take (i := 12) (v := (.bool false)) rfl (by kernel_rfl) (by kernel_rfl) (by kernel_rfl) (fun _ _ _ h => h) (Or.inl ⟨by rfl, ?hy140130⟩) hHeld ?hn140130
      case hy140130 => (intro wz hSw; go_simp; first | done | (simp; done) | (simp; omega) | omega)
      try simp only [List.getElem_toArray, List.getElem_cons_zero, List.getElem_cons_succ, Act.put, List.setIfInBounds_toArray, List.set_cons_zero, List.set_cons_succ]
      refine' wpAnyH_take (i := 13) (v := (.bool true)) rfl (by kernel_rfl) (by kernel_rfl) (by kernel_rfl) (fun _ _ _ h => h) (Or.inl ⟨by rfl, ?hy140131⟩) hHeld ?hn140131
      case hy140131 => (intro wz hSw; go_simp; first | done | (simp; done) | (simp; omega) | omega)
      try simp only [List.getElem_toArray, List.getElem_cons_zero, List.getElem_cons_succ, Act.put, List.setIfInBounds_toArray, List.set_cons_zero, List.set_cons_succ]
      refine' wpAnyH_take (i := 14) (v := (.bool true)) rfl (by kernel_rfl) (by kernel_rfl) (by kernel_rfl) (fun _ _ _ h => h) (Or.inl ⟨by rfl, ?hy140132⟩) hHeld ?hn140132
      case hy140132 => (intro wz hSw; go_simp; first | done | (simp; done) | (simp; omega) | omega)
      try simp only [List.getElem_toArray, List.getElem_cons_zero, List.getElem_cons_succ, Act.put, List.setIfInBounds_toArray, List.set_cons_zero, List.set_cons_succ]
      refine' wpAnyH_take (i := 15) (v := _) rfl (by kernel_rfl) (by kernel_rfl) (by kernel_rfl) (fun _ _ _ h => h) (Or.inl ⟨by rfl, ?hy140133⟩) hHeld ?hn140133
      case hy140133 => (intro wz hSw; (try dsimp only at hSw); go_simp; first | done | with_reducible rfl)
      try simp only [List.getElem_toArray, List.getElem_cons_zero, List.getElem_cons_succ, Act.put, List.setIfInBounds_toArray, List.set_cons_zero, List.set_cons_succ]
      refine' wpAnyH_take (i := 16) (v := (.agg #[.slice la ls.length lc, .slice sa l.length sc])) rfl (by kernel_rfl) (by kernel_rfl) (by kernel_rfl) (fun _ _ _ h => h) (Or.inl ⟨by rfl, ?hy140134⟩) hHeld ?hn140134
      case hy140134 => (intro wz hSw; have j0 := cell_later hSw p0; have j1 := cell_later hSw p1; go_simp)
      try simp only [List.getElem_toArray, List.getElem_cons_zero, List.getElem_cons_succ, Act.put, List.setIfInBounds_toArray, List.set_cons_zero, List.set_cons_succ]
      refine' wpAnyH_take (i := 19) (v := (.agg #[.slice la ls.length lc, .slice sa l.length sc])) rfl (by kernel_rfl) (by kernel_rfl) (by kernel_rfl) (fun _ _ _ h => h) (Or.inl ⟨by rfl, ?hy140135⟩) hHeld ?hn140135
      case hy140135 => (intro wz hSw; have j0 := cell_later hSw p0; have j1 := cell_later hSw p1; go_simp)
      try simp only [List.getElem_toArray, List.getElem_cons_zero, List.getElem_cons_succ, Act.put, List.setIfInBounds_toArray, List.set_cons_zero, List.set_cons_succ]
      refine wpAnyH_ready (rs := [17]) (by kernel_rfl) (by simp) ?_
      refine AllReadyH.cons rfl (fun K hK => ?_) AllReadyH.nil
      go_simp
      refine Calls.mono (HAT.out _ (Below.then BWb.out hHeld BWb.out.size)) ?_; rintro e' y1 ⟨av, rfl, hbx, hao⟩; obtain ⟨aa, ac, rfl⟩ := rowt_slice hao; clear hao
      refine hK.out _ _ (Below.then hHeld hbx hHeld.size) (fun hHeld => ?_)
      clear hK K
      refine' wpAnyH_take (i := 18) (v := _) rfl (by kernel_rfl) (by kernel_rfl) (by kernel_rfl) (fun _ _ _ h => h) (Or.inl ⟨by rfl, ?hy140136⟩) hHeld ?hn140136
      case hy140136 => (intro wz hSw; (try dsimp only at hSw); go_simp; first | done | with_reducible rfl)
      try simp only [List.getElem_toArray, List.getElem_cons_zero, List.getElem_cons_succ, Act.put, List.setIfInBounds_toArray, List.set_cons_zero, List.set_cons_succ]
      refine wpAnyH_ready (rs := [20]) (by kernel_rfl) (by simp) ?_
      refine AllReadyH.cons rfl (fun K hK => ?_) AllReadyH.nil
      go_simp
      refine Calls.mono (HPS.out _ (Below.then BWb.out hHeld BWb.out.size)) ?_; rintro e' y2 ⟨rfl, hbx⟩
      refine hK.out _ _ (Below.then hHeld hbx hHeld.size) (fun hHeld => ?_)
      clear hK K
      refine' wpAnyH_take (i := 21) (v := (.int .i64 (xa.length : Int))) rfl (by kernel_rfl) (by kernel_rfl) (by kernel_rfl) (fun _ _ _ h => h) (Or.inl ⟨by rfl, ?hy140137⟩) hHeld ?hn140137
      case hy140137 => (intro wz hSw; go_simp; first | done | (simp; done) | (simp; omega) | omega)
      try simp only [List.getElem_toArray, List.getElem_cons_zero, List.getElem_cons_succ, Act.put, List.setIfInBounds_toArray, List.set_cons_zero, List.set_cons_succ]
      refine' wpAnyH_take (i := 22) (v := (.bool true)) rfl (by kernel_rfl) (by kernel_rfl) (by kernel_rfl) (fun _ _ _ h => h) (Or.inl ⟨by rfl, ?hy140138⟩) hHeld ?hn140138
      case hy140138 => (intro wz hSw; go_simp; first | done | (simp; done) | (simp; omega) | omega)
      try simp only [List.getElem_toArray, List.getElem_cons_zero, List.getElem_cons_succ, Act.put, List.setIfInBounds_toArray, List.set_cons_zero, List.set_cons_succ]
      refine' wpAnyH_take (i := 23) (v := (.bool true)) rfl (by kernel_rfl) (by kernel_rfl) (by kernel_rfl) (fun _ _ _ h => h) (Or.inl ⟨by rfl, ?hy140139⟩) hHeld ?hn140139
      case hy140139 => (intro wz hSw; go_simp; first | done | (simp; done) | (simp; omega) | omega)
      try simp only [List.getElem_toArray, List.getElem_cons_zero, List.getElem_cons_succ, Act.put, List.setIfInBounds_toArray, List.set_cons_zero, List.set_cons_succ]
      refine' wpAnyH_take (i := 24) (v := _) rfl (by kernel_rfl) (by kernel_rfl) (by kernel_rfl) (fun _ _ _ h => h) (Or.inl ⟨by rfl, ?hy140140⟩) hHeld ?hn140140
      case hy140140 => (intro wz hSw; (try dsimp only at hSw); go_simp; first | done | with_reducible rfl)
      try simp only [List.getElem_toArray, List.getElem_cons_zero, List.getElem_cons_succ, Act.put, List.setIfInBounds_toArray, List.set_cons_zero, List.set_cons_succ]
      refine' wpAnyH_take (i := 25) (v := (.agg #[.slice la ls.length lc, .slice sa l.length sc])) rfl (by kernel_rfl) (by kernel_rfl) (by kernel_rfl) (fun _ _ _ h => h) (Or.inl ⟨by rfl, ?hy140141⟩) hHeld ?hn140141
      case hy140141 => (intro wz hSw; have j0 := cell_later hSw p0; have j1 := cell_later hSw p1; go_simp)
      try simp only [List.getElem_toArray, List.getElem_cons_zero, List.getElem_cons_succ, Act.put, List.setIfInBounds_toArray, List.set_cons_zero, List.set_cons_succ]
      refine' wpAnyH_take (i := 28) (v := (.agg #[.slice la ls.length lc, .slice sa l.length sc])) rfl (by kernel_rfl) (by kernel_rfl) (by kernel_rfl) (fun _ _ _ h => h) (Or.inl ⟨by rfl, ?hy140142⟩) hHeld ?hn140142
      case hy140142 => (intro wz hSw; have j0 := cell_later hSw p0; have j1 := cell_later hSw p1; go_simp)
      try simp only [List.getElem_toArray, List.getElem_cons_zero, List.getElem_cons_succ, Act.put, List.setIfInBounds_toArray, List.set_cons_zero, List.set_cons_succ]
      refine wpAnyH_ready (rs := [26]) (by kernel_rfl) (by simp) ?_
      refine AllReadyH.cons rfl (fun K hK => ?_) AllReadyH.nil
      go_simp
      refine Calls.mono (HSE.out _ (Below.then BWb.out hHeld BWb.out.size)) ?_; rintro e' y3 ⟨gv, rfl, hbx, hgo⟩; obtain ⟨ga, gc, rfl⟩ := rowt_slice hgo; clear hgo
      refine hK.out _ _ (Below.then hHeld hbx hHeld.size) (fun hHeld => ?_)
      clear hK K
      refine' wpAnyH_take (i := 27) (v := _) rfl (by kernel_rfl) (by kernel_rfl) (by kernel_rfl) (fun _ _ _ h => h) (Or.inl ⟨by rfl, ?hy140143⟩) hHeld ?hn140143
      case hy140143 => (intro wz hSw; (try dsimp only at hSw); go_simp; first | done | with_reducible rfl)
      try simp only [List.getElem_toArray, List.getElem_cons_zero, List.getElem_cons_succ, Act.put, List.setIfInBounds_toArray, List.set_cons_zero, List.set_cons_succ]
      refine wpAnyH_ready (rs := [29]) (by kernel_rfl) (by simp) ?_
      refine AllReadyH.cons rfl (fun K hK => ?_) AllReadyH.nil
      go_simp
      refine Calls.mono (HPS.out _ (Below.then BWb.out hHeld BWb.out.size)) ?_; rintro e' y4 ⟨rfl, hbx⟩
      refine hK.out _ _ (Below.then hHeld hbx hHeld.size) (fun hHeld => ?_)
      clear hK K
      refine' wpAnyH_take (i := 30) (v := (.int .i64 (xa.length : Int))) rfl (by kernel_rfl) (by kernel_rfl) (by kernel_rfl) (fun _ _ _ h => h) (Or.inl ⟨by rfl, ?hy140144⟩) hHeld ?hn140144
      case hy140144 => (intro wz hSw; go_simp; first | done | (simp; done) | (simp; omega) | omega)
      try simp only [List.getElem_toArray, List.getElem_cons_zero, List.getElem_cons_succ, Act.put, List.setIfInBounds_toArray, List.set_cons_zero, List.set_cons_succ]
      refine' wpAnyH_take (i := 31) (v := (.bool true)) rfl (by kernel_rfl) (by kernel_rfl) (by kernel_rfl) (fun _ _ _ h => h) (Or.inl ⟨by rfl, ?hy140145⟩) hHeld ?hn140145
      case hy140145 => (intro wz hSw; go_simp; first | done | (simp; done) | (simp; omega) | omega)
      try simp only [List.getElem_toArray, List.getElem_cons_zero, List.getElem_cons_succ, Act.put, List.setIfInBounds_toArray, List.set_cons_zero, List.set_cons_succ]
      refine' wpAnyH_take (i := 32) (v := (.bool true)) rfl (by kernel_rfl) (by kernel_rfl) (by kernel_rfl) (fun _ _ _ h => h) (Or.inl ⟨by rfl, ?hy140146⟩) hHeld ?hn140146
      case hy140146 => (intro wz hSw; go_simp; first | done | (simp; done) | (simp; omega) | omega)
      try simp only [List.getElem_toArray, List.getElem_cons_zero, List.getElem_cons_succ, Act.put, List.setIfInBounds_toArray, List.set_cons_zero, List.set_cons_succ]
      refine' wpAnyH_take (i := 33) (v := _) rfl (by kernel_rfl) (by kernel_rfl) (by kernel_rfl) (fun _ _ _ h => h) (Or.inl ⟨by rfl, ?hy140147⟩) hHeld ?hn140147
      case hy140147 => (intro wz hSw; (try dsimp only at hSw); go_simp; first | done | with_reducible rfl)
      try simp only [List.getElem_toArray, List.getElem_cons_zero, List.getElem_cons_succ, Act.put, List.setIfInBounds_toArray, List.set_cons_zero, List.set_cons_succ]
      refine wpAnyH_done (by kernel_rfl) ?_ _
      have HBF : Hid (Below w1.heap.size w1 y4) := Below.then BWb.out hHeld BWb.out.size
      clear hHeld p0 p1
      go_wp2
      exact bodyPost_ret (v := .bool true) (by simp [results, Tryd.results10, go_sem]) rfl ⟨rfl, HB1.out.trans (HBF.out.mono HB1.out.size)⟩
end Go.Proofs.YtpmhkhajahoaaaaDoor
