/- What is done in a step is done by what is known of that: the law, walked. -/
import Derived.Test.YtpmhkhajahoaaaaDoorTmb
import Derived.Test.YtpmhkhajahoaaaaDoorTks
import Derived.Test.YtpmhkhajahoaaaaDoorDty
import Derived.Test.YtpmhkhajahoaaaaDoorImp
import Derived.Test.YtpmhkhajahoaaaaDoorRtx
import Derived.Test.YtpmhkhajahoaaaaDoorToC
namespace Go.Proofs.YtpmhkhajahoaaaaDoor
open Go.RowKit
set_option linter.unusedSimpArgs false
set_option linter.unusedVariables false
attribute [local go_sem] World.cell?_alloc_some
theorem top_fl {x : Int × Int} (h : okL x) : flL topL x = true := by
  unfold flL
  have e : ∀ n : Int, 0 ≤ n → n ≤ 7 → covB 7 n = true := fun n h0 h7 => all8 (P := fun n => covB 7 n = true) (by decide) n h0 h7
  rw [show topL.1 = 7 from rfl, show topL.2 = 7 from rfl, e _ h.1.1 h.1.2, e _ h.2.1 h.2.2]; rfl

theorem atT_zero {ls : List (Int × Int)} {d : Nat} (l : List (Pay × Tr d × Tr d)) (h0 : Int × Int) (h : 0 < (if True then atT ls (d + 1) (l : List (Pay × Tr d × Tr d)) h0 else []).length) : (if True then atT ls (d + 1) (l : List (Pay × Tr d × Tr d)) h0 else [])[0] = h0 := by
  match l with
  | [] => exact absurd h (by simp [atT, prs])
  | x :: l' =>
    have e : (if True then atT ls (d + 1) (x :: l' : List (Pay × Tr d × Tr d)) h0 else []) = h0 :: (List.map (fun y => y.2) ((prs ls d x.2.1 (anL h0 (lab ls x.1.v)) ++ prs ls d x.2.2 (anL h0 (lab ls x.1.v))) ++ List.flatMap (fun y => (y.1, h0) :: (prs ls d y.2.1 (anL h0 (lab ls y.1.v)) ++ prs ls d y.2.2 (anL h0 (lab ls y.1.v)))) l')) := by
      rw [if_pos trivial]
      unfold atT
      show List.map _ (List.flatMap _ (x :: l')) = _
      rw [List.flatMap_cons, List.cons_append, List.map_cons]
    exact List.getElem_of_eq e h

set_option maxHeartbeats 8000000 in
set_option maxRecDepth 20000 in
theorem fnTypeAt_walk (a0 : Option Addr) (len0 cap0 : Nat) (z0 : List Int) (w : World) (s0 s1 : Addr) (hg0 : w.cell? ⟨0, 0, none⟩ = some (.iface 152 (.pointer (some s0)))) (hg1 : w.cell? ⟨1, 0, none⟩ = some (.iface 152 (.pointer (some s1)))) (h0 : IsRow .u8 w a0 len0 cap0 z0) :
    Calls Tryd.prog 3 #[.slice a0 len0 cap0] w fun e w' => e = .returned (.bool true) ∧ Below w.heap.size w w' := by
  by_cases hl0 : (1048576 : Int) < (len0 : Int)
  · go_enter Tryd.func3, Tryd.ntmps3
    go_wp2
    go_ret
    exact ⟨rfl, Below.refl _ _⟩
  have C1 : Hid _ := drawTypeAt_any w a0 len0 cap0 z0 h0
  have HG0 : Hid _ := hg0
  have HG1 : Hid _ := hg1
  clear h0 hg0 hg1
  go_enter Tryd.func3, Tryd.ntmps3
  go_wp2_with fail
  go_at_call 14; refine Calls.mono C1.out ?_
  rintro e w1 ⟨lv, sv, ls, d, l, rfl, hLp, hRp, ll, cn, hb1⟩
  have hL := hLp.rep
  have hR := hRp.rep
  obtain ⟨la, lc, rfl, hll, hlm, -⟩ := id hL
  obtain ⟨sa, sc, hsv, hslc, hscm, -⟩ := id hR
  subst hsv
  have hR : Rep w1 (d + 1) (.slice sa l.length sc) (l : List (Pay × Tr d × Tr d)) := hR
  have hlc8 : l.length ≤ 400 := Nat.le_trans (show l.length ≤ (cnt (d + 1) (l : List (Pay × Tr d × Tr d))) from ln_le_cnt (d + 1) (l : List (Pay × Tr d × Tr d))) cn
  have A : Below w1.heap.size w1 (w1.alloc (.cells #[.slice la ls.length lc, .slice sa l.length sc] 26)) := (Below.refl _ _).alloc (Nat.le_refl _) _
  have G2 := C2.new w1 (.slice la ls.length lc) (.slice sa l.length sc) 26
  have HLR : Hid (∀ wz, Below w1.heap.size w1 wz → LRep wz (.slice la ls.length lc) ls ∧ Rep wz (d + 1) (.slice sa l.length sc) (l : List (Pay × Tr d × Tr d)) ∧ wz.cell? ⟨0, 0, none⟩ = some (.iface 152 (.pointer (some s0))) ∧ wz.cell? ⟨1, 0, none⟩ = some (.iface 152 (.pointer (some s1)))) := (show ∀ wz, _ from fun wz hb => ⟨hL.below hb, hR.below hb, cell_later hb (cell_later hb1 HG0.out), cell_later hb (cell_later hb1 HG1.out)⟩)
  have HB1 : Hid (Below w.heap.size w w1) := hb1
  obtain ⟨ok, hok⟩ : ∃ x, (progB ls (d + 1) (l : List (Pay × Tr d × Tr d)) && !(whyR ls (d + 1) (l : List (Pay × Tr d × Tr d))).2) = x := ⟨_, rfl⟩
  have HOKV : Hid _ := hok
  have HT : Hid (∀ wz, Below w1.heap.size w1 wz → Calls Tryd.prog 27 #[.agg #[.slice la ls.length lc, .slice sa l.length sc]] wz fun e w' => e = .returned (.bool ok) ∧ Below wz.heap.size wz w') := (show ∀ wz, _ from fun wz hb => by
    rw [← hok]; exact typeOk_any (HLR.out wz hb).1 (HLR.out wz hb).2.1 (HLR.out wz hb).2.2.1 (HLR.out wz hb).2.2.2)
  have HS : Hid (∀ wz, Below w1.heap.size w1 wz → Calls Tryd.prog 24 #[.agg #[.slice la ls.length lc, .slice sa l.length sc]] wz fun e w' => e = .returned (.bool ok) ∧ Below wz.heap.size wz w') := (show ∀ wz, _ from fun wz hb => by
    rw [← hok]; exact sTypeOk_any (HLR.out wz hb).1 (HLR.out wz hb).2.1 (Nat.le_trans cn (by decide)))
  obtain ⟨pb, hpb⟩ : ∃ x, progB ls (d + 1) (l : List (Pay × Tr d × Tr d)) = x := ⟨_, rfl⟩
  have HPB : Hid _ := hpb
  have HP : Hid (∀ wz, Below w1.heap.size w1 wz → Calls Tryd.prog 18 #[.agg #[.slice la ls.length lc, .slice sa l.length sc]] wz fun e w' => e = .returned (.bool pb) ∧ Below wz.heap.size wz w') := (show ∀ wz, _ from fun wz hb => by
    rw [← hpb]; exact sProgOk_any (HLR.out wz hb).1 (HLR.out wz hb).2.1 (Nat.le_trans cn (by decide)))
  generalize hw2 : w1.alloc (.cells #[.slice la ls.length lc, .slice sa l.length sc] 26) = w2 at A G2
  have HW2 : Hid _ := hw2
  have B_w2 : Hid (Below w1.heap.size w1 w2) := A
  have G_w2 : Hid (C2 w2 w1.heap.size (.slice la ls.length lc) (.slice sa l.length sc)) := G2
  clear hLp hRp hb1 C1 A G2 hw2 hL hR hok hpb
  have HAT : Hid (∀ wz, Below w1.heap.size w1 wz → Calls Tryd.prog 15 #[.agg #[.slice la ls.length lc, .slice sa l.length sc]] wz (LaPost wz (atR ls (d + 1) (l : List (Pay × Tr d × Tr d))))) := (show ∀ wz, _ from fun wz hb => typeAt_any (HLR.out wz hb).1 (HLR.out wz hb).2.1 (HLR.out wz hb).2.2.1 (HLR.out wz hb).2.2.2)
  have HAW : Hid (∀ wz, Below w1.heap.size w1 wz → Calls Tryd.prog 16 #[.agg #[.slice la ls.length lc, .slice sa l.length sc]] wz (TaPost wz (atR ls (d + 1) (l : List (Pay × Tr d × Tr d))))) := (show ∀ wz, _ from fun wz hb => sTypeAt_any (HLR.out wz hb).1 (HLR.out wz hb).2.1 (Nat.le_trans cn (by decide)))
  have HPS : Hid _ := fun (wz : World) (hb : Below w1.heap.size w1 wz) => progSize_any (HLR.out wz hb).1 (HLR.out wz hb).2.1
  have hxs : (∀ x ∈ atR ls (d + 1) (l : List (Pay × Tr d × Tr d)), okL x) ∧ (∀ h : 0 < (atR ls (d + 1) (l : List (Pay × Tr d × Tr d))).length, (atR ls (d + 1) (l : List (Pay × Tr d × Tr d)))[0] = topL) ∧ (pb = true → (atR ls (d + 1) (l : List (Pay × Tr d × Tr d))).length = (cnt (d + 1) (l : List (Pay × Tr d × Tr d)))) := by
    unfold atR
    rw [HPB.out]
    cases pb
    · exact ⟨fun x hx => by simp at hx, fun h => by simp at h, fun h => by cases h⟩
    · exact ⟨atT_ok (progB_labs HPB.out) _ _ _ topL_ok, fun h => atT_zero _ _ h, fun _ => atT_length ls (d + 1) (l : List (Pay × Tr d × Tr d)) topL⟩
  obtain ⟨xs, hxse⟩ : ∃ xs, xs = atR ls (d + 1) (l : List (Pay × Tr d × Tr d)) := ⟨_, rfl⟩
  rw [← hxse] at HAT HAW hxs
  have hxl : xs.length ≤ 400 := by
    rw [hxse]; unfold atR; split
    · exact Nat.le_trans (Nat.le_of_eq (atT_length ls (d + 1) (l : List (Pay × Tr d × Tr d)) topL)) cn
    · simp
  have HXO : Hid _ := hxs.1
  have HX0 : Hid _ := hxs.2.1
  have HXC : Hid _ := hxs.2.2
  clear hxse hxs
  go_wp2_with fail
  rw [HW2.out]
  clear HW2
  go_at_call 15; refine Calls.mono (HAT.out _ B_w2.out) ?_
  rintro e w3 ⟨av, rfl, hb_w3, ha3⟩
  obtain ⟨aa, ac, rfl⟩ := rowt_slice ha3
  obtain ⟨ba, hao, -⟩ := row_pown ha3
  have HA3 : Hid (LRep w3 (.slice aa xs.length ac) xs) := hao.rep
  clear ha3 hao
  have B_w3 : Hid (Below w1.heap.size w1 w3) := Below.then B_w2.out hb_w3 B_w2.out.size
  have G_w3 : Hid (C2 w3 w1.heap.size (.slice la ls.length lc) (.slice sa l.length sc)) := G_w2.out.same (hb_w3.block _ (World.block_lt_of_cell? _ _ G_w2.out.1.1))
  clear hb_w3
  try clear p0 p1
  obtain ⟨⟨p0, p1⟩, -⟩ := id G_w3.out
  go_wp2_with fail
  go_at_call 16; refine Calls.mono (HAW.out _ B_w3.out) ?_
  rintro e w4 ⟨bv, rfl, hb_w4, hb4, -⟩
  obtain ⟨qa, qc, rfl⟩ := rowt_slice hb4
  obtain ⟨bb, hbo, -⟩ := row_pown hb4
  have HA4 : Hid (LRep w4 (.slice aa xs.length ac) xs) := HA3.out.below hb_w4
  have HQ4 : Hid (LRep w4 (.slice qa xs.length qc) xs) := hbo.rep
  clear hb4 hbo HA3
  have B_w4 : Hid (Below w1.heap.size w1 w4) := Below.then B_w3.out hb_w4 B_w3.out.size
  have G_w4 : Hid (C2 w4 w1.heap.size (.slice la ls.length lc) (.slice sa l.length sc)) := G_w3.out.same (hb_w4.block _ (World.block_lt_of_cell? _ _ G_w3.out.1.1))
  clear hb_w4
  try clear p0 p1
  obtain ⟨⟨p0, p1⟩, -⟩ := id G_w4.out
  have hx64 : (xs.length : Int) ≤ 400 := by omega
  obtain ⟨_, _, ea, -, -, hac⟩ := id HA4.out
  cases ea
  obtain ⟨_, _, eq, -, -, hqc⟩ := id HQ4.out
  cases eq
  have HAC : Hid _ := hac
  have HQC : Hid _ := hqc
  clear hac hqc
  go_wp2
  go_loopw [6] (fun j wr => ∃ (i : Nat), i ≤ xs.length ∧ j = .int .i64 i ∧ Below w4.heap.size w4 wr) (fun j _ => xs.length - (intOf j).toNat)
  case atStart => exact ⟨0, by omega, rfl, Below.refl _ _⟩
  case round =>
    obtain ⟨i, hi, rfl, hB⟩ := hrel
    have HB : Hid _ := hB
    have p0' := cell_later hB p0
    have p1' := cell_later hB p1
    have i0' : (0 : Int) ≤ (i : Int) := by omega
    clear hB
    by_cases hlt : i < xs.length
    · have i1' : (i : Int) < (xs.length : Int) := by omega
      have z0' : (0 : Int) < (xs.length : Int) := by omega
      have zn : 0 < xs.length := by omega
      obtain ⟨b1, o1, rfl, k0, k1⟩ := HAC.out i hlt
      obtain ⟨b2, o2, rfl, k2, k3⟩ := HQC.out i hlt
      obtain ⟨b1', o1', eb, k4, k5⟩ := HAC.out 0 (by omega)
      cases eb
      have h0 := HX0.out (by omega)
      rw [h0] at k4 k5
      change _ = some (Value.int .i64 7) at k4 k5
      have hok := HXO.out xs[i] (List.getElem_mem hlt)
      generalize xs[i] = x at k0 k1 k2 k3 hok
      replace k0 := cell_later HB.out k0
      replace k1 := cell_later HB.out k1
      replace k2 := cell_later HB.out k2
      replace k3 := cell_later HB.out k3
      replace k4 := cell_later HB.out k4
      replace k5 := cell_later HB.out k5
      simp only [Nat.zero_mul, Nat.add_zero] at k4 k5
      have CF : Hid (∀ wz, Calls Tryd.prog 17 #[.agg #[.int .i64 7, .int .i64 7], .agg #[.int .i64 x.1, .int .i64 x.2]] wz fun e w' => e = .returned (.bool true) ∧ Below wz.heap.size wz w') := (show ∀ wz, _ from fun wz => by
        have := flows_ok topL_ok hok wz
        rw [top_fl hok] at this
        exact this)
      clear h0 hok
      go_wp2_with fail
      refine wp_region_held (S := (fun wz => Below wr.heap.size wr wz)) (by kernel_rfl) ?_
      change wpAnyH _ _ _ _ _ _ _ _ (World.drew _)
      have hHeld := (show Below wr.heap.size wr (World.drew wr) from (Below.refl _ _).drew)
      refine' wpAnyH_take (i := 0) (v := _) rfl (by kernel_rfl) (by kernel_rfl) (by kernel_rfl) (fun _ _ _ h => h) (Or.inl ⟨by rfl, ?hy1⟩) hHeld ?hn1
      case hy1 => (intro wz hSw; (try dsimp only at hSw); go_simp; first | done | with_reducible rfl)
      try simp only [List.getElem_toArray, List.getElem_cons_zero, List.getElem_cons_succ, Act.put, List.setIfInBounds_toArray, List.set_cons_zero, List.set_cons_succ]
      refine' wpAnyH_take (i := 1) (v := _) rfl (by kernel_rfl) (by kernel_rfl) (by kernel_rfl) (fun _ _ _ h => h) (Or.inl ⟨by rfl, ?hy2⟩) hHeld ?hn2
      case hy2 => (intro wz hSw; (try dsimp only at hSw); go_simp; first | done | with_reducible rfl)
      try simp only [List.getElem_toArray, List.getElem_cons_zero, List.getElem_cons_succ, Act.put, List.setIfInBounds_toArray, List.set_cons_zero, List.set_cons_succ]
      refine' wpAnyH_take (i := 2) (v := (.pointer (some ⟨b1, o1 + i * 2, none⟩))) rfl (by kernel_rfl) (by kernel_rfl) (by kernel_rfl) (fun _ _ _ h => h) (Or.inl ⟨by rfl, ?hy3⟩) hHeld ?hn3
      case hy3 => (intro wz hSw; go_simp; first | done | (simp; done))
      try simp only [List.getElem_toArray, List.getElem_cons_zero, List.getElem_cons_succ, Act.put, List.setIfInBounds_toArray, List.set_cons_zero, List.set_cons_succ]
      refine' wpAnyH_take (i := 3) (v := (.agg #[.int .i64 x.1, .int .i64 x.2])) rfl (by kernel_rfl) (by kernel_rfl) (by kernel_rfl) (fun _ _ _ h => h) (Or.inl ⟨by rfl, ?hy4⟩) hHeld ?hn4
      case hy4 => (intro wz hSw; have j0 := cell_later hSw k0; have j1 := cell_later hSw k1; go_simp)
      try simp only [List.getElem_toArray, List.getElem_cons_zero, List.getElem_cons_succ, Act.put, List.setIfInBounds_toArray, List.set_cons_zero, List.set_cons_succ]
      refine' wpAnyH_take (i := 4) (v := _) rfl (by kernel_rfl) (by kernel_rfl) (by kernel_rfl) (fun _ _ _ h => h) (Or.inl ⟨by rfl, ?hy5⟩) hHeld ?hn5
      case hy5 => (intro wz hSw; (try dsimp only at hSw); go_simp; first | done | with_reducible rfl)
      try simp only [List.getElem_toArray, List.getElem_cons_zero, List.getElem_cons_succ, Act.put, List.setIfInBounds_toArray, List.set_cons_zero, List.set_cons_succ]
      refine' wpAnyH_take (i := 5) (v := _) rfl (by kernel_rfl) (by kernel_rfl) (by kernel_rfl) (fun _ _ _ h => h) (Or.inl ⟨by rfl, ?hy6⟩) hHeld ?hn6
      case hy6 => (intro wz hSw; (try dsimp only at hSw); go_simp; first | done | with_reducible rfl)
      try simp only [List.getElem_toArray, List.getElem_cons_zero, List.getElem_cons_succ, Act.put, List.setIfInBounds_toArray, List.set_cons_zero, List.set_cons_succ]
      refine' wpAnyH_take (i := 6) (v := (.pointer (some ⟨b2, o2 + i * 2, none⟩))) rfl (by kernel_rfl) (by kernel_rfl) (by kernel_rfl) (fun _ _ _ h => h) (Or.inl ⟨by rfl, ?hy7⟩) hHeld ?hn7
      case hy7 => (intro wz hSw; go_simp; first | done | (simp; done))
      try simp only [List.getElem_toArray, List.getElem_cons_zero, List.getElem_cons_succ, Act.put, List.setIfInBounds_toArray, List.set_cons_zero, List.set_cons_succ]
      refine' wpAnyH_take (i := 7) (v := (.agg #[.int .i64 x.1, .int .i64 x.2])) rfl (by kernel_rfl) (by kernel_rfl) (by kernel_rfl) (fun _ _ _ h => h) (Or.inl ⟨by rfl, ?hy8⟩) hHeld ?hn8
      case hy8 => (intro wz hSw; have j0 := cell_later hSw k2; have j1 := cell_later hSw k3; go_simp)
      try simp only [List.getElem_toArray, List.getElem_cons_zero, List.getElem_cons_succ, Act.put, List.setIfInBounds_toArray, List.set_cons_zero, List.set_cons_succ]
      refine' wpAnyH_take (i := 8) (v := (.bool false)) rfl (by kernel_rfl) (by kernel_rfl) (by kernel_rfl) (fun _ _ _ h => h) (Or.inl ⟨by rfl, ?hy9⟩) hHeld ?hn9
      case hy9 => (intro wz hSw; go_simp; first | done | (simp; done))
      try simp only [List.getElem_toArray, List.getElem_cons_zero, List.getElem_cons_succ, Act.put, List.setIfInBounds_toArray, List.set_cons_zero, List.set_cons_succ]
      refine' wpAnyH_take (i := 9) (v := _) rfl (by kernel_rfl) (by kernel_rfl) (by kernel_rfl) (fun _ _ _ h => h) (Or.inl ⟨by rfl, ?hy10⟩) hHeld ?hn10
      case hy10 => (intro wz hSw; (try dsimp only at hSw); go_simp; first | done | with_reducible rfl)
      try simp only [List.getElem_toArray, List.getElem_cons_zero, List.getElem_cons_succ, Act.put, List.setIfInBounds_toArray, List.set_cons_zero, List.set_cons_succ]
      refine' wpAnyH_take (i := 10) (v := _) rfl (by kernel_rfl) (by kernel_rfl) (by kernel_rfl) (fun _ _ _ h => h) (Or.inl ⟨by rfl, ?hy11⟩) hHeld ?hn11
      case hy11 => (intro wz hSw; (try dsimp only at hSw); go_simp; first | done | with_reducible rfl)
      try simp only [List.getElem_toArray, List.getElem_cons_zero, List.getElem_cons_succ, Act.put, List.setIfInBounds_toArray, List.set_cons_zero, List.set_cons_succ]
      refine' wpAnyH_take (i := 11) (v := _) rfl (by kernel_rfl) (by kernel_rfl) (by kernel_rfl) (fun _ _ _ h => h) (Or.inl ⟨by rfl, ?hy12⟩) hHeld ?hn12
      case hy12 => (intro wz hSw; (try dsimp only at hSw); go_simp; first | done | with_reducible rfl)
      try simp only [List.getElem_toArray, List.getElem_cons_zero, List.getElem_cons_succ, Act.put, List.setIfInBounds_toArray, List.set_cons_zero, List.set_cons_succ]
      refine' wpAnyH_take (i := 12) (v := (.agg #[.int .i64 7, .int .i64 7])) rfl (by kernel_rfl) (by kernel_rfl) (by kernel_rfl) (fun _ _ _ h => h) (Or.inl ⟨by rfl, ?hy13⟩) hHeld ?hn13
      case hy13 => (intro wz hSw; have j0 := cell_later hSw k4; have j1 := cell_later hSw k5; go_simp)
      try simp only [List.getElem_toArray, List.getElem_cons_zero, List.getElem_cons_succ, Act.put, List.setIfInBounds_toArray, List.set_cons_zero, List.set_cons_succ]
      refine' wpAnyH_take (i := 13) (v := _) rfl (by kernel_rfl) (by kernel_rfl) (by kernel_rfl) (fun _ _ _ h => h) (Or.inl ⟨by rfl, ?hy14⟩) hHeld ?hn14
      case hy14 => (intro wz hSw; (try dsimp only at hSw); go_simp; first | done | with_reducible rfl)
      try simp only [List.getElem_toArray, List.getElem_cons_zero, List.getElem_cons_succ, Act.put, List.setIfInBounds_toArray, List.set_cons_zero, List.set_cons_succ]
      refine' wpAnyH_take (i := 14) (v := _) rfl (by kernel_rfl) (by kernel_rfl) (by kernel_rfl) (fun _ _ _ h => h) (Or.inl ⟨by rfl, ?hy15⟩) hHeld ?hn15
      case hy15 => (intro wz hSw; (try dsimp only at hSw); go_simp; first | done | with_reducible rfl)
      try simp only [List.getElem_toArray, List.getElem_cons_zero, List.getElem_cons_succ, Act.put, List.setIfInBounds_toArray, List.set_cons_zero, List.set_cons_succ]
      refine' wpAnyH_take (i := 15) (v := (.pointer (some ⟨b1, o1 + i * 2, none⟩))) rfl (by kernel_rfl) (by kernel_rfl) (by kernel_rfl) (fun _ _ _ h => h) (Or.inl ⟨by rfl, ?hy16⟩) hHeld ?hn16
      case hy16 => (intro wz hSw; go_simp; first | done | (simp; done))
      try simp only [List.getElem_toArray, List.getElem_cons_zero, List.getElem_cons_succ, Act.put, List.setIfInBounds_toArray, List.set_cons_zero, List.set_cons_succ]
      refine' wpAnyH_take (i := 16) (v := (.agg #[.int .i64 x.1, .int .i64 x.2])) rfl (by kernel_rfl) (by kernel_rfl) (by kernel_rfl) (fun _ _ _ h => h) (Or.inl ⟨by rfl, ?hy17⟩) hHeld ?hn17
      case hy17 => (intro wz hSw; have j0 := cell_later hSw k0; have j1 := cell_later hSw k1; go_simp)
      try simp only [List.getElem_toArray, List.getElem_cons_zero, List.getElem_cons_succ, Act.put, List.setIfInBounds_toArray, List.set_cons_zero, List.set_cons_succ]
      refine wpAnyH_ready (rs := [17]) (by kernel_rfl) (by simp) ?_
      refine AllReadyH.cons rfl (fun K hK => ?_) AllReadyH.nil
      go_simp
      refine Calls.mono (CF.out _) ?_; rintro e' w9 ⟨rfl, hbx⟩
      refine hK.out _ _ (Below.then hHeld hbx hHeld.size) (fun hHeld => ?_)
      clear hK K
      refine' wpAnyH_take (i := 18) (v := _) rfl (by kernel_rfl) (by kernel_rfl) (by kernel_rfl) (fun _ _ _ h => h) (Or.inl ⟨by rfl, ?hy18⟩) hHeld ?hn18
      case hy18 => (intro wz hSw; (try dsimp only at hSw); go_simp; first | done | with_reducible rfl)
      try simp only [List.getElem_toArray, List.getElem_cons_zero, List.getElem_cons_succ, Act.put, List.setIfInBounds_toArray, List.set_cons_zero, List.set_cons_succ]
      refine' wpAnyH_take (i := 19) (v := _) rfl (by kernel_rfl) (by kernel_rfl) (by kernel_rfl) (fun _ _ _ h => h) (Or.inl ⟨by rfl, ?hy19⟩) hHeld ?hn19
      case hy19 => (intro wz hSw; (try dsimp only at hSw); go_simp; first | done | with_reducible rfl)
      try simp only [List.getElem_toArray, List.getElem_cons_zero, List.getElem_cons_succ, Act.put, List.setIfInBounds_toArray, List.set_cons_zero, List.set_cons_succ]
      refine wpAnyH_done (by kernel_rfl) ?_ _
      have HBF : Hid (Below w4.heap.size w4 w9) := Below.then HB.out hHeld HB.out.size
      clear hHeld k0 k1 k2 k3 k4 k5 p0' p1'
      go_wp2
      exact ⟨⟨i + 1, by omega, by simp, HBF.out⟩, by simp [intOf]; omega⟩
    · have hie : i = xs.length := by omega
      subst hie
      have B_wr : Hid (Below w1.heap.size w1 wr) := Below.then B_w4.out HB.out B_w4.out.size
      have hxc := HXC.out
      cases pb
      · go_wp2_with fail
        go_at_call 18; refine Calls.mono (HP.out _ B_wr.out) ?_
        rintro e w5 ⟨rfl, hb5⟩
        have HB5 : Hid _ := Below.then B_wr.out hb5 B_wr.out.size
        clear hb5 p0' p1'
        go_wp2
        go_ret
        exact ⟨rfl, HB1.out.trans (HB5.out.mono HB1.out.size)⟩
      · have hlen := hxc rfl
        have CPS : Hid _ := HPS.out
        rw [HPB.out] at CPS
        simp only [if_true] at CPS
        rw [← hlen] at CPS
        have HCPS : Hid _ := CPS
        rcases Nat.eq_zero_or_pos xs.length with h0 | h0
        · have hz : xs = [] := List.eq_nil_of_length_eq_zero h0
          subst hz
          clear h0 hlen hxc CPS
          go_wp2_with fail
          go_at_call 18; refine Calls.mono (HP.out _ B_wr.out) ?_
          rintro e w5 ⟨rfl, hb5⟩
          have B5 : Hid _ := Below.then B_wr.out hb5 B_wr.out.size
          have C7 : Hid _ := HCPS.out w5 B5.out
          replace p0' := cell_later hb5 p0'
          replace p1' := cell_later hb5 p1'
          clear hb5
          go_wp2_with fail
          go_at_call 19; refine Calls.mono C7.out ?_
          rintro e w6 ⟨rfl, hb6⟩
          have HB6 : Hid _ := Below.then B5.out hb6 B5.out.size
          clear hb6 p0' p1' C7
          go_wp2
          go_ret
          exact ⟨rfl, HB1.out.trans (HB6.out.mono HB1.out.size)⟩
        · obtain ⟨b1, o1, rfl, k4, k5⟩ := HAC.out 0 h0
          have h00 := HX0.out h0
          rw [h00] at k4 k5
          change _ = some (Value.int .i64 7) at k4 k5
          simp only [Nat.zero_mul, Nat.add_zero] at k4 k5
          replace k4 := cell_later HB.out k4
          replace k5 := cell_later HB.out k5
          have hnz : ¬ ((xs.length : Int) = 0) := by omega
          have hxne : ¬ xs = [] := fun e => by rw [e] at h0; simp at h0
          have z0' : (0 : Int) < (xs.length : Int) := by omega
          clear hlen hxc CPS h00
          go_wp2_with fail
          go_at_call 18; refine Calls.mono (HP.out _ B_wr.out) ?_
          rintro e w5 ⟨rfl, hb5⟩
          have B5 : Hid _ := Below.then B_wr.out hb5 B_wr.out.size
          have C7 : Hid _ := HCPS.out w5 B5.out
          replace p0' := cell_later hb5 p0'
          replace p1' := cell_later hb5 p1'
          replace k4 := cell_later hb5 k4
          replace k5 := cell_later hb5 k5
          clear hb5
          go_wp2_with fail
          go_at_call 19; refine Calls.mono C7.out ?_
          rintro e w6 ⟨rfl, hb6⟩
          have HB6 : Hid _ := Below.then B5.out hb6 B5.out.size
          replace k4 := cell_later hb6 k4
          replace k5 := cell_later hb6 k5
          clear hb6 p0' p1' C7
          go_wp2
          exact bodyPost_ret (v := .bool true) (by simp [results, Tryd.results3, go_sem]) rfl ⟨rfl, HB1.out.trans (HB6.out.mono HB1.out.size)⟩
end Go.Proofs.YtpmhkhajahoaaaaDoor
