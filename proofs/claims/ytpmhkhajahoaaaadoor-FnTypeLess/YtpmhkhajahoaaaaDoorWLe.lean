/- A program is fine just if its first steps are, and the rest: the law, walked. -/
import Derived.Test.YtpmhkhajahoaaaaDoorTmc
import Derived.Test.YtpmhkhajahoaaaaDoorTks
import Derived.Test.YtpmhkhajahoaaaaDoorDty
import Derived.Test.YtpmhkhajahoaaaaDoorCtl
namespace Go.Proofs.YtpmhkhajahoaaaaDoor
open Go.RowKit
set_option linter.unusedSimpArgs false
set_option linter.unusedVariables false
attribute [local go_sem] World.cell?_alloc_some
set_option maxHeartbeats 8000000 in
set_option maxRecDepth 20000 in
theorem fnTypeLess_walk (a0 : Option Addr) (len0 cap0 : Nat) (z0 : List Int) (a1 : Option Addr) (len1 cap1 : Nat) (z1 : List Int) (w : World) (s0 s1 : Addr) (hg0 : w.cell? ⟨0, 0, none⟩ = some (.iface 152 (.pointer (some s0)))) (hg1 : w.cell? ⟨1, 0, none⟩ = some (.iface 152 (.pointer (some s1)))) (h0 : IsRow .u8 w a0 len0 cap0 z0) (h1 : IsRow .u8 w a1 len1 cap1 z1) :
    Calls Tryd.prog 5 #[.slice a0 len0 cap0, .slice a1 len1 cap1] w fun e w' => e = .returned (.bool true) ∧ Below w.heap.size w w' := by
  by_cases hl0 : (1048576 : Int) < (len0 : Int)
  · go_enter Tryd.func5, Tryd.ntmps5
    go_wp2
    go_ret
    exact ⟨rfl, Below.refl _ _⟩
  by_cases hl1 : (1048576 : Int) < (len1 : Int)
  · go_enter Tryd.func5, Tryd.ntmps5
    go_wp2
    go_ret
    exact ⟨rfl, Below.refl _ _⟩
  have C1 : Hid _ := drawTypeOk_any w a0 len0 cap0 z0 h0
  have HG0 : Hid _ := hg0
  have HG1 : Hid _ := hg1
  clear h0 h1 hg0 hg1
  go_enter Tryd.func5, Tryd.ntmps5
  go_wp2_with fail
  go_at_call 26; refine Calls.mono C1.out ?_
  rintro e w1 ⟨lv, sv, ls, d, l, rfl, hLp, hRp, ll, cn, hb1⟩
  have hL := hLp.rep
  have hR := hRp.rep
  obtain ⟨la, lc, rfl, hll, hlm, -⟩ := id hL
  obtain ⟨sa, sc, hsv, hslc, hscm, -⟩ := id hR
  subst hsv
  have hR : Rep w1 (d + 1) (.slice sa l.length sc) (l : List (Pay × Tr d × Tr d)) := hR
  have hlc8 : l.length ≤ 400 := Nat.le_trans (show l.length ≤ (cnt (d + 1) (l : List (Pay × Tr d × Tr d))) from ln_le_cnt (d + 1) (l : List (Pay × Tr d × Tr d))) cn
  have A : Below w1.heap.size w1 (w1.alloc (.cells #[.slice la ls.length lc, .slice sa l.length sc] 26)) := (Below.refl _ _).alloc (Nat.le_refl _) _
  have G2 := C2.new w1 (.slice la ls.length lc) (.slice sa l.length sc) 26
  have HLR : Hid (∀ wz, Below w1.heap.size w1 wz → LRep wz (.slice la ls.length lc) ls ∧ Rep wz (d + 1) (.slice sa l.length sc) (l : List (Pay × Tr d × Tr d)) ∧ wz.cell? ⟨0, 0, none⟩ = some (.iface 152 (.pointer (some s0))) ∧ wz.cell? ⟨1, 0, none⟩ = some (.iface 152 (.pointer (some s1)))) := (show ∀ wz, _ from fun wz hb => ⟨hL.below hb, hR.below hb, cell_later hb (cell_later hb1 HG0.out), cell_later hb (cell_later hb1 HG1.out)⟩)
  have HB1 : Hid (Below w.heap.size w w1) := hb1
  obtain ⟨ok, hok⟩ : ∃ x, (progB ls (d + 1) (l : List (Pay × Tr d × Tr d)) && !(whyR ls (d + 1) (l : List (Pay × Tr d × Tr d))).2) = x := ⟨_, rfl⟩
  have HOKV : Hid _ := hok
  have HT : Hid (∀ wz, Below w1.heap.size w1 wz → Calls Tryd.prog 27 #[.agg #[.slice la ls.length lc, .slice sa l.length sc]] wz fun e w' => e = .returned (.bool ok) ∧ Below wz.heap.size wz w') := (show ∀ wz, _ from fun wz hb => by
    rw [← hok]; exact typeOk_any (HLR.out wz hb).1 (HLR.out wz hb).2.1 (HLR.out wz hb).2.2.1 (HLR.out wz hb).2.2.2)
  have HS : Hid (∀ wz, Below w1.heap.size w1 wz → Calls Tryd.prog 24 #[.agg #[.slice la ls.length lc, .slice sa l.length sc]] wz fun e w' => e = .returned (.bool ok) ∧ Below wz.heap.size wz w') := (show ∀ wz, _ from fun wz hb => by
    rw [← hok]; exact sTypeOk_any (HLR.out wz hb).1 (HLR.out wz hb).2.1 (Nat.le_trans cn (by decide)))
  obtain ⟨pb, hpb⟩ : ∃ x, progB ls (d + 1) (l : List (Pay × Tr d × Tr d)) = x := ⟨_, rfl⟩
  have HPB : Hid _ := hpb
  have HP : Hid (∀ wz, Below w1.heap.size w1 wz → Calls Tryd.prog 18 #[.agg #[.slice la ls.length lc, .slice sa l.length sc]] wz fun e w' => e = .returned (.bool pb) ∧ Below wz.heap.size wz w') := (show ∀ wz, _ from fun wz hb => by
    rw [← hpb]; exact sProgOk_any (HLR.out wz hb).1 (HLR.out wz hb).2.1 (Nat.le_trans cn (by decide)))
  generalize hw2 : w1.alloc (.cells #[.slice la ls.length lc, .slice sa l.length sc] 26) = w2 at A G2
  have HW2 : Hid _ := hw2
  have B_w2 : Hid (Below w1.heap.size w1 w2) := A
  have G_w2 : Hid (C2 w2 w1.heap.size (.slice la ls.length lc) (.slice sa l.length sc)) := G2
  clear hLp hRp hb1 C1 A G2 hw2 hL hR hok hpb
  go_wp2_with fail
  rw [HW2.out]
  clear HW2
  go_at_call 27; refine Calls.mono (HT.out _ B_w2.out) ?_
  rintro e w3 ⟨rfl, hb_w3⟩
  have B_w3 : Hid (Below w1.heap.size w1 w3) := Below.then B_w2.out hb_w3 B_w2.out.size
  have G_w3 : Hid (C2 w3 w1.heap.size (.slice la ls.length lc) (.slice sa l.length sc)) := G_w2.out.same (hb_w3.block _ (World.block_lt_of_cell? _ _ G_w2.out.1.1))
  clear hb_w3
  try clear p0 p1
  obtain ⟨⟨p0, p1⟩, -⟩ := id G_w3.out
  go_wp2_with fail
  go_at_call 24; refine Calls.mono (HS.out _ B_w3.out) ?_
  rintro e w4 ⟨rfl, hb_w4⟩
  have B_w4 : Hid (Below w1.heap.size w1 w4) := Below.then B_w3.out hb_w4 B_w3.out.size
  have G_w4 : Hid (C2 w4 w1.heap.size (.slice la ls.length lc) (.slice sa l.length sc)) := G_w3.out.same (hb_w4.block _ (World.block_lt_of_cell? _ _ G_w3.out.1.1))
  clear hb_w4
  try clear p0 p1
  obtain ⟨⟨p0, p1⟩, -⟩ := id G_w4.out
  cases ok
  all_goals skip
  · go_wp2_with fail
    go_at_call 18; refine Calls.mono (HP.out _ B_w4.out) ?_
    rintro e w5 ⟨rfl, hb_w5⟩
    have B_w5 : Hid (Below w1.heap.size w1 w5) := Below.then B_w4.out hb_w5 B_w4.out.size
    have G_w5 : Hid (C2 w5 w1.heap.size (.slice la ls.length lc) (.slice sa l.length sc)) := G_w4.out.same (hb_w5.block _ (World.block_lt_of_cell? _ _ G_w4.out.1.1))
    clear hb_w5
    try clear p0 p1
    obtain ⟨⟨p0, p1⟩, -⟩ := id G_w5.out
    cases pb
    · have C6 : Hid _ := HS.out _ B_w5.out
      go_wp2_with fail
      go_at_call 24; refine Calls.mono (C6.out) ?_
      rintro e w6 ⟨rfl, hb_w6⟩
      have B_w6 : Hid (Below w1.heap.size w1 w6) := Below.then B_w5.out hb_w6 B_w5.out.size
      have G_w6 : Hid (C2 w6 w1.heap.size (.slice la ls.length lc) (.slice sa l.length sc)) := G_w5.out.same (hb_w6.block _ (World.block_lt_of_cell? _ _ G_w5.out.1.1))
      clear hb_w6
      try clear p0 p1
      obtain ⟨⟨p0, p1⟩, -⟩ := id G_w6.out
      go_wp2
      go_ret
      exact ⟨rfl, HB1.out.trans (B_w6.out.mono HB1.out.size)⟩
    · obtain ⟨q, hq⟩ : ∃ q, len1 % (l.length + 1) = q := ⟨_, rfl⟩
      have hq1 : q ≤ l.length := by rw [← hq]; have := Nat.mod_lt len1 (show 0 < l.length + 1 by omega); omega
      have hmod : (len1 : Int).tmod ((l.length : Int) + 1) = (q : Int) := by rw [Int.tmod_eq_emod_of_nonneg (by omega), ← hq]; rfl
      have hw1 := w64 ((l.length : Int) + 1) (by omega)
      have hne : ¬ ((l.length : Int) + 1 = 0) := by omega
      obtain ⟨VB, hVR, hVB⟩ := rep_cut (HLR.out _ B_w5.out).2.1 hq1
      obtain ⟨vba, vbc, hvb⟩ := (hVR _ (fun _ _ h => h)).2.slice
      obtain ⟨vbl, hvbl⟩ : ∃ n, n = ln (d + 1) (l.drop q : List (Pay × Tr d × Tr d)) := ⟨_, rfl⟩
      rw [← hvbl] at hvb
      subst hvb
      have HRP : Hid (∀ wz, Below w5.heap.size w5 wz → Rep wz (d + 1) (.slice sa q sc) (l.take q : List (Pay × Tr d × Tr d)) ∧ Rep wz (d + 1) (.slice vba vbl vbc) (l.drop q : List (Pay × Tr d × Tr d))) := (show ∀ wz, _ from fun wz hb => hVR wz (fun _ _ h => cell_later hb h))
      have HCS : Hid ((q = 0 ∧ l.length = 0 ∧ Value.slice vba vbl vbc = .slice sa l.length sc) ∨ ∃ b off, sa = some ⟨b, off, none⟩ ∧ Value.slice vba vbl vbc = .slice (some (if sc = q then ⟨b, off, none⟩ else ⟨b, off + q * 8, none⟩)) (l.length - q) (sc - q)) := hVB
      have HCL : Hid (q ≤ sc ∧ q ≤ l.length ∧ (0 : Int) ≤ (q : Int) ∧ (q : Int) ≤ (sc : Int) ∧ (q : Int) ≤ (l.length : Int) ∧ (l.length : Int) ≤ (sc : Int)) := (show q ≤ sc ∧ q ≤ l.length ∧ (0 : Int) ≤ (q : Int) ∧ (q : Int) ≤ (sc : Int) ∧ (q : Int) ≤ (l.length : Int) ∧ (l.length : Int) ≤ (sc : Int) by omega)
      obtain ⟨hp1, hp2⟩ := progB_cut HPB.out q
      obtain ⟨o1, ho1⟩ : ∃ x, (progB ls (d + 1) (l.take q : List (Pay × Tr d × Tr d)) && !(whyR ls (d + 1) (l.take q : List (Pay × Tr d × Tr d))).2) = x := ⟨_, rfl⟩
      obtain ⟨o2, ho2⟩ : ∃ x, (progB ls (d + 1) (l.drop q : List (Pay × Tr d × Tr d)) && !(whyR ls (d + 1) (l.drop q : List (Pay × Tr d × Tr d))).2) = x := ⟨_, rfl⟩
      have hoo := HOKV.out
      have hps := HPB.out
      have ec : (l.take q ++ l.drop q : List (Pay × Tr d × Tr d)) = l := List.take_append_drop q l
      rw [← ec] at hoo hps
      rw [less_fine hps hp1 hp2, ho1, ho2] at hoo
      have HOO : Hid _ := hoo
      have C1 : Hid (∀ wz, Below w5.heap.size w5 wz → Calls Tryd.prog 27 #[.agg #[.slice la ls.length lc, .slice sa q sc]] wz fun e w' => e = .returned (.bool o1) ∧ Below wz.heap.size wz w') := (show ∀ wz, _ from fun wz hb => by
        have hb' := Below.then B_w5.out hb B_w5.out.size
        rw [← ho1]; exact typeOk_any (HLR.out wz hb').1 (HRP.out wz hb).1 (HLR.out wz hb').2.2.1 (HLR.out wz hb').2.2.2)
      have C2 : Hid (∀ wz, Below w5.heap.size w5 wz → Calls Tryd.prog 27 #[.agg #[.slice la ls.length lc, .slice vba vbl vbc]] wz fun e w' => e = .returned (.bool o2) ∧ Below wz.heap.size wz w') := (show ∀ wz, _ from fun wz hb => by
        have hb' := Below.then B_w5.out hb B_w5.out.size
        rw [← ho2]; exact typeOk_any (HLR.out wz hb').1 (HRP.out wz hb).2 (HLR.out wz hb').2.2.1 (HLR.out wz hb').2.2.2)
      clear hq hVR hVB hvbl hp1 hp2 ho1 ho2 hoo hps ec
      cases o1
      · go_wp2_with fail
        refine wp_region_held (S := (fun wz => Below w5.heap.size w5 wz)) (by kernel_rfl) ?_
        change wpAnyH _ _ _ _ _ _ _ _ (World.drew _)
        have hHeld := (show Below w5.heap.size w5 (World.drew w5) from (Below.refl _ _).drew)
        refine' wpAnyH_take (i := 0) (v := _) rfl (by kernel_rfl) (by kernel_rfl) (by kernel_rfl) (fun _ _ _ h => h) (Or.inl ⟨by rfl, ?hy141001⟩) hHeld ?hn141001
        case hy141001 => (intro wz hSw; (try dsimp only at hSw); go_simp; first | done | with_reducible rfl)
        try simp only [List.getElem_toArray, List.getElem_cons_zero, List.getElem_cons_succ, Act.put, List.setIfInBounds_toArray, List.set_cons_zero, List.set_cons_succ]
        refine' wpAnyH_take (i := 1) (v := _) rfl (by kernel_rfl) (by kernel_rfl) (by kernel_rfl) (fun _ _ _ h => h) (Or.inl ⟨by rfl, ?hy141002⟩) hHeld ?hn141002
        case hy141002 => (intro wz hSw; (try dsimp only at hSw); go_simp; first | done | with_reducible rfl)
        try simp only [List.getElem_toArray, List.getElem_cons_zero, List.getElem_cons_succ, Act.put, List.setIfInBounds_toArray, List.set_cons_zero, List.set_cons_succ]
        refine' wpAnyH_take (i := 2) (v := (.slice la ls.length lc)) rfl (by kernel_rfl) (by kernel_rfl) (by kernel_rfl) (fun _ _ _ h => h) (Or.inl ⟨by rfl, ?hy141003⟩) hHeld ?hn141003
        case hy141003 => (intro wz hSw; have j0 := cell_later hSw p0; have j1 := cell_later hSw p1; go_simp)
        try simp only [List.getElem_toArray, List.getElem_cons_zero, List.getElem_cons_succ, Act.put, List.setIfInBounds_toArray, List.set_cons_zero, List.set_cons_succ]
        refine' wpAnyH_take (i := 3) (v := _) rfl (by kernel_rfl) (by kernel_rfl) (by kernel_rfl) (fun _ _ _ h => h) (Or.inl ⟨by rfl, ?hy141004⟩) hHeld ?hn141004
        case hy141004 => (intro wz hSw; (try dsimp only at hSw); go_simp; first | done | with_reducible rfl)
        try simp only [List.getElem_toArray, List.getElem_cons_zero, List.getElem_cons_succ, Act.put, List.setIfInBounds_toArray, List.set_cons_zero, List.set_cons_succ]
        refine' wpAnyH_take (i := 4) (v := (.slice sa l.length sc)) rfl (by kernel_rfl) (by kernel_rfl) (by kernel_rfl) (fun _ _ _ h => h) (Or.inl ⟨by rfl, ?hy141005⟩) hHeld ?hn141005
        case hy141005 => (intro wz hSw; have j0 := cell_later hSw p0; have j1 := cell_later hSw p1; go_simp)
        try simp only [List.getElem_toArray, List.getElem_cons_zero, List.getElem_cons_succ, Act.put, List.setIfInBounds_toArray, List.set_cons_zero, List.set_cons_succ]
        refine' wpAnyH_take (i := 5) (v := _) rfl (by kernel_rfl) (by kernel_rfl) (by kernel_rfl) (fun _ _ _ h => h) (Or.inl ⟨by rfl, ?hy141006⟩) hHeld ?hn141006
        case hy141006 => (intro wz hSw; (try dsimp only at hSw); go_simp; first | done | with_reducible rfl)
        try simp only [List.getElem_toArray, List.getElem_cons_zero, List.getElem_cons_succ, Act.put, List.setIfInBounds_toArray, List.set_cons_zero, List.set_cons_succ]
        refine' wpAnyH_take (i := 6) (v := (.slice sa q sc)) rfl (by kernel_rfl) (by kernel_rfl) (by kernel_rfl) (fun _ _ _ h => h) (Or.inl ⟨by rfl, ?hy141007⟩) hHeld ?hn141007
        case hy141007 => (intro wz hSw; have j1 := cell_later hSw p1; have hcl := HCL.out; rcases HCS.out with ⟨h0, h1, -⟩ | ⟨b', off', h0, -⟩; (subst h0; cases sa <;> go_simp); (subst h0; go_simp))
        try simp only [List.getElem_toArray, List.getElem_cons_zero, List.getElem_cons_succ, Act.put, List.setIfInBounds_toArray, List.set_cons_zero, List.set_cons_succ]
        refine' wpAnyH_take (i := 7) (v := _) rfl (by kernel_rfl) (by kernel_rfl) (by kernel_rfl) (fun _ _ _ h => h) (Or.inl ⟨by rfl, ?hy141008⟩) hHeld ?hn141008
        case hy141008 => (intro wz hSw; (try dsimp only at hSw); go_simp; first | done | with_reducible rfl)
        try simp only [List.getElem_toArray, List.getElem_cons_zero, List.getElem_cons_succ, Act.put, List.setIfInBounds_toArray, List.set_cons_zero, List.set_cons_succ]
        refine wpAnyH_ready (rs := [8]) (by kernel_rfl) (by simp) ?_
        refine AllReadyH.cons rfl (fun K hK => ?_) AllReadyH.nil
        go_simp
        refine Calls.mono (C1.out _ hHeld) ?_; rintro e' w8 ⟨rfl, hbx⟩
        refine hK.out _ _ (Below.then hHeld hbx hHeld.size) (fun hHeld => ?_)
        clear hK K
        refine' wpAnyH_take (i := 9) (v := _) rfl (by kernel_rfl) (by kernel_rfl) (by kernel_rfl) (fun _ _ _ h => h) (Or.inl ⟨by rfl, ?hy141009⟩) hHeld ?hn141009
        case hy141009 => (intro wz hSw; (try dsimp only at hSw); go_simp; first | done | with_reducible rfl)
        try simp only [List.getElem_toArray, List.getElem_cons_zero, List.getElem_cons_succ, Act.put, List.setIfInBounds_toArray, List.set_cons_zero, List.set_cons_succ]
        refine' wpAnyH_take (i := 10) (v := undef) rfl (by kernel_rfl) (by kernel_rfl) (by kernel_rfl) (fun _ _ _ h => h) (Or.inr ⟨by rfl, rfl⟩) hHeld ?hn141010
        try simp only [List.getElem_toArray, List.getElem_cons_zero, List.getElem_cons_succ, Act.put, List.setIfInBounds_toArray, List.set_cons_zero, List.set_cons_succ]
        refine' wpAnyH_take (i := 11) (v := undef) rfl (by kernel_rfl) (by kernel_rfl) (by kernel_rfl) (fun _ _ _ h => h) (Or.inr ⟨by rfl, rfl⟩) hHeld ?hn141011
        try simp only [List.getElem_toArray, List.getElem_cons_zero, List.getElem_cons_succ, Act.put, List.setIfInBounds_toArray, List.set_cons_zero, List.set_cons_succ]
        refine' wpAnyH_take (i := 12) (v := undef) rfl (by kernel_rfl) (by kernel_rfl) (by kernel_rfl) (fun _ _ _ h => h) (Or.inr ⟨by rfl, rfl⟩) hHeld ?hn141012
        try simp only [List.getElem_toArray, List.getElem_cons_zero, List.getElem_cons_succ, Act.put, List.setIfInBounds_toArray, List.set_cons_zero, List.set_cons_succ]
        refine' wpAnyH_take (i := 13) (v := undef) rfl (by kernel_rfl) (by kernel_rfl) (by kernel_rfl) (fun _ _ _ h => h) (Or.inr ⟨by rfl, rfl⟩) hHeld ?hn141013
        try simp only [List.getElem_toArray, List.getElem_cons_zero, List.getElem_cons_succ, Act.put, List.setIfInBounds_toArray, List.set_cons_zero, List.set_cons_succ]
        refine' wpAnyH_take (i := 14) (v := undef) rfl (by kernel_rfl) (by kernel_rfl) (by kernel_rfl) (fun _ _ _ h => h) (Or.inr ⟨by rfl, rfl⟩) hHeld ?hn141014
        try simp only [List.getElem_toArray, List.getElem_cons_zero, List.getElem_cons_succ, Act.put, List.setIfInBounds_toArray, List.set_cons_zero, List.set_cons_succ]
        refine' wpAnyH_take (i := 15) (v := undef) rfl (by kernel_rfl) (by kernel_rfl) (by kernel_rfl) (fun _ _ _ h => h) (Or.inr ⟨by rfl, rfl⟩) hHeld ?hn141015
        try simp only [List.getElem_toArray, List.getElem_cons_zero, List.getElem_cons_succ, Act.put, List.setIfInBounds_toArray, List.set_cons_zero, List.set_cons_succ]
        refine' wpAnyH_take (i := 16) (v := undef) rfl (by kernel_rfl) (by kernel_rfl) (by kernel_rfl) (fun _ _ _ h => h) (Or.inr ⟨by rfl, rfl⟩) hHeld ?hn141016
        try simp only [List.getElem_toArray, List.getElem_cons_zero, List.getElem_cons_succ, Act.put, List.setIfInBounds_toArray, List.set_cons_zero, List.set_cons_succ]
        refine' wpAnyH_take (i := 17) (v := undef) rfl (by kernel_rfl) (by kernel_rfl) (by kernel_rfl) (fun _ _ _ h => h) (Or.inr ⟨by rfl, rfl⟩) hHeld ?hn141017
        try simp only [List.getElem_toArray, List.getElem_cons_zero, List.getElem_cons_succ, Act.put, List.setIfInBounds_toArray, List.set_cons_zero, List.set_cons_succ]
        refine' wpAnyH_take (i := 18) (v := _) rfl (by kernel_rfl) (by kernel_rfl) (by kernel_rfl) (fun _ _ _ h => h) (Or.inl ⟨by rfl, ?hy141018⟩) hHeld ?hn141018
        case hy141018 => (intro wz hSw; (try dsimp only at hSw); go_simp; first | done | with_reducible rfl)
        try simp only [List.getElem_toArray, List.getElem_cons_zero, List.getElem_cons_succ, Act.put, List.setIfInBounds_toArray, List.set_cons_zero, List.set_cons_succ]
        refine' wpAnyH_take (i := 19) (v := _) rfl (by kernel_rfl) (by kernel_rfl) (by kernel_rfl) (fun _ _ _ h => h) (Or.inl ⟨by rfl, ?hy141019⟩) hHeld ?hn141019
        case hy141019 => (intro wz hSw; (try dsimp only at hSw); go_simp; first | done | with_reducible rfl)
        try simp only [List.getElem_toArray, List.getElem_cons_zero, List.getElem_cons_succ, Act.put, List.setIfInBounds_toArray, List.set_cons_zero, List.set_cons_succ]
        refine' wpAnyH_take (i := 20) (v := _) rfl (by kernel_rfl) (by kernel_rfl) (by kernel_rfl) (fun _ _ _ h => h) (Or.inl ⟨by rfl, ?hy141020⟩) hHeld ?hn141020
        case hy141020 => (intro wz hSw; (try dsimp only at hSw); go_simp; first | done | with_reducible rfl)
        try simp only [List.getElem_toArray, List.getElem_cons_zero, List.getElem_cons_succ, Act.put, List.setIfInBounds_toArray, List.set_cons_zero, List.set_cons_succ]
        refine wpAnyH_done (by kernel_rfl) ?_ _
        have HBF : Hid (Below w1.heap.size w1 w8) := Below.then B_w5.out hHeld B_w5.out.size
        clear hHeld p0 p1
        have hoo := HOO.out
        first
        | (cases hoo; done)
        | (go_wp2
           go_ret
           exact ⟨rfl, HB1.out.trans (HBF.out.mono HB1.out.size)⟩)
      · go_wp2_with fail
        refine wp_region_held (S := (fun wz => Below w5.heap.size w5 wz)) (by kernel_rfl) ?_
        change wpAnyH _ _ _ _ _ _ _ _ (World.drew _)
        have hHeld := (show Below w5.heap.size w5 (World.drew w5) from (Below.refl _ _).drew)
        refine' wpAnyH_take (i := 0) (v := _) rfl (by kernel_rfl) (by kernel_rfl) (by kernel_rfl) (fun _ _ _ h => h) (Or.inl ⟨by rfl, ?hy141501⟩) hHeld ?hn141501
        case hy141501 => (intro wz hSw; (try dsimp only at hSw); go_simp; first | done | with_reducible rfl)
        try simp only [List.getElem_toArray, List.getElem_cons_zero, List.getElem_cons_succ, Act.put, List.setIfInBounds_toArray, List.set_cons_zero, List.set_cons_succ]
        refine' wpAnyH_take (i := 1) (v := _) rfl (by kernel_rfl) (by kernel_rfl) (by kernel_rfl) (fun _ _ _ h => h) (Or.inl ⟨by rfl, ?hy141502⟩) hHeld ?hn141502
        case hy141502 => (intro wz hSw; (try dsimp only at hSw); go_simp; first | done | with_reducible rfl)
        try simp only [List.getElem_toArray, List.getElem_cons_zero, List.getElem_cons_succ, Act.put, List.setIfInBounds_toArray, List.set_cons_zero, List.set_cons_succ]
        refine' wpAnyH_take (i := 2) (v := (.slice la ls.length lc)) rfl (by kernel_rfl) (by kernel_rfl) (by kernel_rfl) (fun _ _ _ h => h) (Or.inl ⟨by rfl, ?hy141503⟩) hHeld ?hn141503
        case hy141503 => (intro wz hSw; have j0 := cell_later hSw p0; have j1 := cell_later hSw p1; go_simp)
        try simp only [List.getElem_toArray, List.getElem_cons_zero, List.getElem_cons_succ, Act.put, List.setIfInBounds_toArray, List.set_cons_zero, List.set_cons_succ]
        refine' wpAnyH_take (i := 3) (v := _) rfl (by kernel_rfl) (by kernel_rfl) (by kernel_rfl) (fun _ _ _ h => h) (Or.inl ⟨by rfl, ?hy141504⟩) hHeld ?hn141504
        case hy141504 => (intro wz hSw; (try dsimp only at hSw); go_simp; first | done | with_reducible rfl)
        try simp only [List.getElem_toArray, List.getElem_cons_zero, List.getElem_cons_succ, Act.put, List.setIfInBounds_toArray, List.set_cons_zero, List.set_cons_succ]
        refine' wpAnyH_take (i := 4) (v := (.slice sa l.length sc)) rfl (by kernel_rfl) (by kernel_rfl) (by kernel_rfl) (fun _ _ _ h => h) (Or.inl ⟨by rfl, ?hy141505⟩) hHeld ?hn141505
        case hy141505 => (intro wz hSw; have j0 := cell_later hSw p0; have j1 := cell_later hSw p1; go_simp)
        try simp only [List.getElem_toArray, List.getElem_cons_zero, List.getElem_cons_succ, Act.put, List.setIfInBounds_toArray, List.set_cons_zero, List.set_cons_succ]
        refine' wpAnyH_take (i := 5) (v := _) rfl (by kernel_rfl) (by kernel_rfl) (by kernel_rfl) (fun _ _ _ h => h) (Or.inl ⟨by rfl, ?hy141506⟩) hHeld ?hn141506
        case hy141506 => (intro wz hSw; (try dsimp only at hSw); go_simp; first | done | with_reducible rfl)
        try simp only [List.getElem_toArray, List.getElem_cons_zero, List.getElem_cons_succ, Act.put, List.setIfInBounds_toArray, List.set_cons_zero, List.set_cons_succ]
        refine' wpAnyH_take (i := 6) (v := (.slice sa q sc)) rfl (by kernel_rfl) (by kernel_rfl) (by kernel_rfl) (fun _ _ _ h => h) (Or.inl ⟨by rfl, ?hy141507⟩) hHeld ?hn141507
        case hy141507 => (intro wz hSw; have j1 := cell_later hSw p1; have hcl := HCL.out; rcases HCS.out with ⟨h0, h1, -⟩ | ⟨b', off', h0, -⟩; (subst h0; cases sa <;> go_simp); (subst h0; go_simp))
        try simp only [List.getElem_toArray, List.getElem_cons_zero, List.getElem_cons_succ, Act.put, List.setIfInBounds_toArray, List.set_cons_zero, List.set_cons_succ]
        refine' wpAnyH_take (i := 7) (v := _) rfl (by kernel_rfl) (by kernel_rfl) (by kernel_rfl) (fun _ _ _ h => h) (Or.inl ⟨by rfl, ?hy141508⟩) hHeld ?hn141508
        case hy141508 => (intro wz hSw; (try dsimp only at hSw); go_simp; first | done | with_reducible rfl)
        try simp only [List.getElem_toArray, List.getElem_cons_zero, List.getElem_cons_succ, Act.put, List.setIfInBounds_toArray, List.set_cons_zero, List.set_cons_succ]
        refine wpAnyH_ready (rs := [8]) (by kernel_rfl) (by simp) ?_
        refine AllReadyH.cons rfl (fun K hK => ?_) AllReadyH.nil
        go_simp
        refine Calls.mono (C1.out _ hHeld) ?_; rintro e' w8 ⟨rfl, hbx⟩
        refine hK.out _ _ (Below.then hHeld hbx hHeld.size) (fun hHeld => ?_)
        clear hK K
        refine' wpAnyH_take (i := 9) (v := _) rfl (by kernel_rfl) (by kernel_rfl) (by kernel_rfl) (fun _ _ _ h => h) (Or.inl ⟨by rfl, ?hy141509⟩) hHeld ?hn141509
        case hy141509 => (intro wz hSw; (try dsimp only at hSw); go_simp; first | done | with_reducible rfl)
        try simp only [List.getElem_toArray, List.getElem_cons_zero, List.getElem_cons_succ, Act.put, List.setIfInBounds_toArray, List.set_cons_zero, List.set_cons_succ]
        refine' wpAnyH_take (i := 10) (v := _) rfl (by kernel_rfl) (by kernel_rfl) (by kernel_rfl) (fun _ _ _ h => h) (Or.inl ⟨by rfl, ?hy141510⟩) hHeld ?hn141510
        case hy141510 => (intro wz hSw; (try dsimp only at hSw); go_simp; first | done | with_reducible rfl)
        try simp only [List.getElem_toArray, List.getElem_cons_zero, List.getElem_cons_succ, Act.put, List.setIfInBounds_toArray, List.set_cons_zero, List.set_cons_succ]
        refine' wpAnyH_take (i := 11) (v := (.slice la ls.length lc)) rfl (by kernel_rfl) (by kernel_rfl) (by kernel_rfl) (fun _ _ _ h => h) (Or.inl ⟨by rfl, ?hy141511⟩) hHeld ?hn141511
        case hy141511 => (intro wz hSw; have j0 := cell_later hSw p0; have j1 := cell_later hSw p1; go_simp)
        try simp only [List.getElem_toArray, List.getElem_cons_zero, List.getElem_cons_succ, Act.put, List.setIfInBounds_toArray, List.set_cons_zero, List.set_cons_succ]
        refine' wpAnyH_take (i := 12) (v := _) rfl (by kernel_rfl) (by kernel_rfl) (by kernel_rfl) (fun _ _ _ h => h) (Or.inl ⟨by rfl, ?hy141512⟩) hHeld ?hn141512
        case hy141512 => (intro wz hSw; (try dsimp only at hSw); go_simp; first | done | with_reducible rfl)
        try simp only [List.getElem_toArray, List.getElem_cons_zero, List.getElem_cons_succ, Act.put, List.setIfInBounds_toArray, List.set_cons_zero, List.set_cons_succ]
        refine' wpAnyH_take (i := 13) (v := (.slice sa l.length sc)) rfl (by kernel_rfl) (by kernel_rfl) (by kernel_rfl) (fun _ _ _ h => h) (Or.inl ⟨by rfl, ?hy141513⟩) hHeld ?hn141513
        case hy141513 => (intro wz hSw; have j0 := cell_later hSw p0; have j1 := cell_later hSw p1; go_simp)
        try simp only [List.getElem_toArray, List.getElem_cons_zero, List.getElem_cons_succ, Act.put, List.setIfInBounds_toArray, List.set_cons_zero, List.set_cons_succ]
        refine' wpAnyH_take (i := 14) (v := _) rfl (by kernel_rfl) (by kernel_rfl) (by kernel_rfl) (fun _ _ _ h => h) (Or.inl ⟨by rfl, ?hy141514⟩) hHeld ?hn141514
        case hy141514 => (intro wz hSw; (try dsimp only at hSw); go_simp; first | done | with_reducible rfl)
        try simp only [List.getElem_toArray, List.getElem_cons_zero, List.getElem_cons_succ, Act.put, List.setIfInBounds_toArray, List.set_cons_zero, List.set_cons_succ]
        refine' wpAnyH_take (i := 15) (v := (.slice vba vbl vbc)) rfl (by kernel_rfl) (by kernel_rfl) (by kernel_rfl) (fun _ _ _ h => h) (Or.inl ⟨by rfl, ?hy141515⟩) hHeld ?hn141515
        case hy141515 => (intro wz hSw; have hcl := HCL.out; rcases HCS.out with ⟨h0, h1, h2⟩ | ⟨b', off', h0, h2⟩; (subst h0; rw [h2]; cases sa <;> go_simp); (subst h0; rw [h2]; by_cases hsc : sc = q; (rw [if_pos hsc]; go_simp; try omega); (rw [if_neg hsc]; go_simp; try omega)))
        try simp only [List.getElem_toArray, List.getElem_cons_zero, List.getElem_cons_succ, Act.put, List.setIfInBounds_toArray, List.set_cons_zero, List.set_cons_succ]
        refine' wpAnyH_take (i := 16) (v := _) rfl (by kernel_rfl) (by kernel_rfl) (by kernel_rfl) (fun _ _ _ h => h) (Or.inl ⟨by rfl, ?hy141516⟩) hHeld ?hn141516
        case hy141516 => (intro wz hSw; (try dsimp only at hSw); go_simp; first | done | with_reducible rfl)
        try simp only [List.getElem_toArray, List.getElem_cons_zero, List.getElem_cons_succ, Act.put, List.setIfInBounds_toArray, List.set_cons_zero, List.set_cons_succ]
        refine wpAnyH_ready (rs := [17]) (by kernel_rfl) (by simp) ?_
        refine AllReadyH.cons rfl (fun K hK => ?_) AllReadyH.nil
        go_simp
        refine Calls.mono (C2.out _ hHeld) ?_; rintro e' w9 ⟨rfl, hbx⟩
        refine hK.out _ _ (Below.then hHeld hbx hHeld.size) (fun hHeld => ?_)
        clear hK K
        refine' wpAnyH_take (i := 18) (v := _) rfl (by kernel_rfl) (by kernel_rfl) (by kernel_rfl) (fun _ _ _ h => h) (Or.inl ⟨by rfl, ?hy141517⟩) hHeld ?hn141517
        case hy141517 => (intro wz hSw; (try dsimp only at hSw); go_simp; first | done | with_reducible rfl)
        try simp only [List.getElem_toArray, List.getElem_cons_zero, List.getElem_cons_succ, Act.put, List.setIfInBounds_toArray, List.set_cons_zero, List.set_cons_succ]
        refine' wpAnyH_take (i := 19) (v := _) rfl (by kernel_rfl) (by kernel_rfl) (by kernel_rfl) (fun _ _ _ h => h) (Or.inl ⟨by rfl, ?hy141518⟩) hHeld ?hn141518
        case hy141518 => (intro wz hSw; (try dsimp only at hSw); go_simp; first | done | with_reducible rfl)
        try simp only [List.getElem_toArray, List.getElem_cons_zero, List.getElem_cons_succ, Act.put, List.setIfInBounds_toArray, List.set_cons_zero, List.set_cons_succ]
        refine' wpAnyH_take (i := 20) (v := _) rfl (by kernel_rfl) (by kernel_rfl) (by kernel_rfl) (fun _ _ _ h => h) (Or.inl ⟨by rfl, ?hy141519⟩) hHeld ?hn141519
        case hy141519 => (intro wz hSw; (try dsimp only at hSw); go_simp; first | done | with_reducible rfl)
        try simp only [List.getElem_toArray, List.getElem_cons_zero, List.getElem_cons_succ, Act.put, List.setIfInBounds_toArray, List.set_cons_zero, List.set_cons_succ]
        refine wpAnyH_done (by kernel_rfl) ?_ _
        have HBF : Hid (Below w1.heap.size w1 w9) := Below.then B_w5.out hHeld B_w5.out.size
        clear hHeld p0 p1
        have hoo := HOO.out
        cases o2
        · first
          | (cases hoo; done)
          | (go_wp2
             go_ret
             exact ⟨rfl, HB1.out.trans (HBF.out.mono HB1.out.size)⟩)
        · first
          | (cases hoo; done)
          | (go_wp2
             go_ret
             exact ⟨rfl, HB1.out.trans (HBF.out.mono HB1.out.size)⟩)
  · go_wp2_with fail
    go_at_call 18; refine Calls.mono (HP.out _ B_w4.out) ?_
    rintro e w5 ⟨rfl, hb_w5⟩
    have B_w5 : Hid (Below w1.heap.size w1 w5) := Below.then B_w4.out hb_w5 B_w4.out.size
    have G_w5 : Hid (C2 w5 w1.heap.size (.slice la ls.length lc) (.slice sa l.length sc)) := G_w4.out.same (hb_w5.block _ (World.block_lt_of_cell? _ _ G_w4.out.1.1))
    clear hb_w5
    try clear p0 p1
    obtain ⟨⟨p0, p1⟩, -⟩ := id G_w5.out
    cases pb
    · have C6 : Hid _ := HS.out _ B_w5.out
      go_wp2_with fail
      go_at_call 24; refine Calls.mono (C6.out) ?_
      rintro e w6 ⟨rfl, hb_w6⟩
      have B_w6 : Hid (Below w1.heap.size w1 w6) := Below.then B_w5.out hb_w6 B_w5.out.size
      have G_w6 : Hid (C2 w6 w1.heap.size (.slice la ls.length lc) (.slice sa l.length sc)) := G_w5.out.same (hb_w6.block _ (World.block_lt_of_cell? _ _ G_w5.out.1.1))
      clear hb_w6
      try clear p0 p1
      obtain ⟨⟨p0, p1⟩, -⟩ := id G_w6.out
      go_wp2
      go_ret
      exact ⟨rfl, HB1.out.trans (B_w6.out.mono HB1.out.size)⟩
    · obtain ⟨q, hq⟩ : ∃ q, len1 % (l.length + 1) = q := ⟨_, rfl⟩
      have hq1 : q ≤ l.length := by rw [← hq]; have := Nat.mod_lt len1 (show 0 < l.length + 1 by omega); omega
      have hmod : (len1 : Int).tmod ((l.length : Int) + 1) = (q : Int) := by rw [Int.tmod_eq_emod_of_nonneg (by omega), ← hq]; rfl
      have hw1 := w64 ((l.length : Int) + 1) (by omega)
      have hne : ¬ ((l.length : Int) + 1 = 0) := by omega
      obtain ⟨VB, hVR, hVB⟩ := rep_cut (HLR.out _ B_w5.out).2.1 hq1
      obtain ⟨vba, vbc, hvb⟩ := (hVR _ (fun _ _ h => h)).2.slice
      obtain ⟨vbl, hvbl⟩ : ∃ n, n = ln (d + 1) (l.drop q : List (Pay × Tr d × Tr d)) := ⟨_, rfl⟩
      rw [← hvbl] at hvb
      subst hvb
      have HRP : Hid (∀ wz, Below w5.heap.size w5 wz → Rep wz (d + 1) (.slice sa q sc) (l.take q : List (Pay × Tr d × Tr d)) ∧ Rep wz (d + 1) (.slice vba vbl vbc) (l.drop q : List (Pay × Tr d × Tr d))) := (show ∀ wz, _ from fun wz hb => hVR wz (fun _ _ h => cell_later hb h))
      have HCS : Hid ((q = 0 ∧ l.length = 0 ∧ Value.slice vba vbl vbc = .slice sa l.length sc) ∨ ∃ b off, sa = some ⟨b, off, none⟩ ∧ Value.slice vba vbl vbc = .slice (some (if sc = q then ⟨b, off, none⟩ else ⟨b, off + q * 8, none⟩)) (l.length - q) (sc - q)) := hVB
      have HCL : Hid (q ≤ sc ∧ q ≤ l.length ∧ (0 : Int) ≤ (q : Int) ∧ (q : Int) ≤ (sc : Int) ∧ (q : Int) ≤ (l.length : Int) ∧ (l.length : Int) ≤ (sc : Int)) := (show q ≤ sc ∧ q ≤ l.length ∧ (0 : Int) ≤ (q : Int) ∧ (q : Int) ≤ (sc : Int) ∧ (q : Int) ≤ (l.length : Int) ∧ (l.length : Int) ≤ (sc : Int) by omega)
      obtain ⟨hp1, hp2⟩ := progB_cut HPB.out q
      obtain ⟨o1, ho1⟩ : ∃ x, (progB ls (d + 1) (l.take q : List (Pay × Tr d × Tr d)) && !(whyR ls (d + 1) (l.take q : List (Pay × Tr d × Tr d))).2) = x := ⟨_, rfl⟩
      obtain ⟨o2, ho2⟩ : ∃ x, (progB ls (d + 1) (l.drop q : List (Pay × Tr d × Tr d)) && !(whyR ls (d + 1) (l.drop q : List (Pay × Tr d × Tr d))).2) = x := ⟨_, rfl⟩
      have hoo := HOKV.out
      have hps := HPB.out
      have ec : (l.take q ++ l.drop q : List (Pay × Tr d × Tr d)) = l := List.take_append_drop q l
      rw [← ec] at hoo hps
      rw [less_fine hps hp1 hp2, ho1, ho2] at hoo
      have HOO : Hid _ := hoo
      have C1 : Hid (∀ wz, Below w5.heap.size w5 wz → Calls Tryd.prog 27 #[.agg #[.slice la ls.length lc, .slice sa q sc]] wz fun e w' => e = .returned (.bool o1) ∧ Below wz.heap.size wz w') := (show ∀ wz, _ from fun wz hb => by
        have hb' := Below.then B_w5.out hb B_w5.out.size
        rw [← ho1]; exact typeOk_any (HLR.out wz hb').1 (HRP.out wz hb).1 (HLR.out wz hb').2.2.1 (HLR.out wz hb').2.2.2)
      have C2 : Hid (∀ wz, Below w5.heap.size w5 wz → Calls Tryd.prog 27 #[.agg #[.slice la ls.length lc, .slice vba vbl vbc]] wz fun e w' => e = .returned (.bool o2) ∧ Below wz.heap.size wz w') := (show ∀ wz, _ from fun wz hb => by
        have hb' := Below.then B_w5.out hb B_w5.out.size
        rw [← ho2]; exact typeOk_any (HLR.out wz hb').1 (HRP.out wz hb).2 (HLR.out wz hb').2.2.1 (HLR.out wz hb').2.2.2)
      clear hq hVR hVB hvbl hp1 hp2 ho1 ho2 hoo hps ec
      cases o1
      · go_wp2_with fail
        refine wp_region_held (S := (fun wz => Below w5.heap.size w5 wz)) (by kernel_rfl) ?_
        change wpAnyH _ _ _ _ _ _ _ _ (World.drew _)
        have hHeld := (show Below w5.heap.size w5 (World.drew w5) from (Below.refl _ _).drew)
        refine' wpAnyH_take (i := 0) (v := _) rfl (by kernel_rfl) (by kernel_rfl) (by kernel_rfl) (fun _ _ _ h => h) (Or.inl ⟨by rfl, ?hy142001⟩) hHeld ?hn142001
        case hy142001 => (intro wz hSw; (try dsimp only at hSw); go_simp; first | done | with_reducible rfl)
        try simp only [List.getElem_toArray, List.getElem_cons_zero, List.getElem_cons_succ, Act.put, List.setIfInBounds_toArray, List.set_cons_zero, List.set_cons_succ]
        refine' wpAnyH_take (i := 1) (v := _) rfl (by kernel_rfl) (by kernel_rfl) (by kernel_rfl) (fun _ _ _ h => h) (Or.inl ⟨by rfl, ?hy142002⟩) hHeld ?hn142002
        case hy142002 => (intro wz hSw; (try dsimp only at hSw); go_simp; first | done | with_reducible rfl)
        try simp only [List.getElem_toArray, List.getElem_cons_zero, List.getElem_cons_succ, Act.put, List.setIfInBounds_toArray, List.set_cons_zero, List.set_cons_succ]
        refine' wpAnyH_take (i := 2) (v := (.slice la ls.length lc)) rfl (by kernel_rfl) (by kernel_rfl) (by kernel_rfl) (fun _ _ _ h => h) (Or.inl ⟨by rfl, ?hy142003⟩) hHeld ?hn142003
        case hy142003 => (intro wz hSw; have j0 := cell_later hSw p0; have j1 := cell_later hSw p1; go_simp)
        try simp only [List.getElem_toArray, List.getElem_cons_zero, List.getElem_cons_succ, Act.put, List.setIfInBounds_toArray, List.set_cons_zero, List.set_cons_succ]
        refine' wpAnyH_take (i := 3) (v := _) rfl (by kernel_rfl) (by kernel_rfl) (by kernel_rfl) (fun _ _ _ h => h) (Or.inl ⟨by rfl, ?hy142004⟩) hHeld ?hn142004
        case hy142004 => (intro wz hSw; (try dsimp only at hSw); go_simp; first | done | with_reducible rfl)
        try simp only [List.getElem_toArray, List.getElem_cons_zero, List.getElem_cons_succ, Act.put, List.setIfInBounds_toArray, List.set_cons_zero, List.set_cons_succ]
        refine' wpAnyH_take (i := 4) (v := (.slice sa l.length sc)) rfl (by kernel_rfl) (by kernel_rfl) (by kernel_rfl) (fun _ _ _ h => h) (Or.inl ⟨by rfl, ?hy142005⟩) hHeld ?hn142005
        case hy142005 => (intro wz hSw; have j0 := cell_later hSw p0; have j1 := cell_later hSw p1; go_simp)
        try simp only [List.getElem_toArray, List.getElem_cons_zero, List.getElem_cons_succ, Act.put, List.setIfInBounds_toArray, List.set_cons_zero, List.set_cons_succ]
        refine' wpAnyH_take (i := 5) (v := _) rfl (by kernel_rfl) (by kernel_rfl) (by kernel_rfl) (fun _ _ _ h => h) (Or.inl ⟨by rfl, ?hy142006⟩) hHeld ?hn142006
        case hy142006 => (intro wz hSw; (try dsimp only at hSw); go_simp; first | done | with_reducible rfl)
        try simp only [List.getElem_toArray, List.getElem_cons_zero, List.getElem_cons_succ, Act.put, List.setIfInBounds_toArray, List.set_cons_zero, List.set_cons_succ]
        refine' wpAnyH_take (i := 6) (v := (.slice sa q sc)) rfl (by kernel_rfl) (by kernel_rfl) (by kernel_rfl) (fun _ _ _ h => h) (Or.inl ⟨by rfl, ?hy142007⟩) hHeld ?hn142007
        case hy142007 => (intro wz hSw; have j1 := cell_later hSw p1; have hcl := HCL.out; rcases HCS.out with ⟨h0, h1, -⟩ | ⟨b', off', h0, -⟩; (subst h0; cases sa <;> go_simp); (subst h0; go_simp))
        try simp only [List.getElem_toArray, List.getElem_cons_zero, List.getElem_cons_succ, Act.put, List.setIfInBounds_toArray, List.set_cons_zero, List.set_cons_succ]
        refine' wpAnyH_take (i := 7) (v := _) rfl (by kernel_rfl) (by kernel_rfl) (by kernel_rfl) (fun _ _ _ h => h) (Or.inl ⟨by rfl, ?hy142008⟩) hHeld ?hn142008
        case hy142008 => (intro wz hSw; (try dsimp only at hSw); go_simp; first | done | with_reducible rfl)
        try simp only [List.getElem_toArray, List.getElem_cons_zero, List.getElem_cons_succ, Act.put, List.setIfInBounds_toArray, List.set_cons_zero, List.set_cons_succ]
        refine wpAnyH_ready (rs := [8]) (by kernel_rfl) (by simp) ?_
        refine AllReadyH.cons rfl (fun K hK => ?_) AllReadyH.nil
        go_simp
        refine Calls.mono (C1.out _ hHeld) ?_; rintro e' w8 ⟨rfl, hbx⟩
        refine hK.out _ _ (Below.then hHeld hbx hHeld.size) (fun hHeld => ?_)
        clear hK K
        refine' wpAnyH_take (i := 9) (v := _) rfl (by kernel_rfl) (by kernel_rfl) (by kernel_rfl) (fun _ _ _ h => h) (Or.inl ⟨by rfl, ?hy142009⟩) hHeld ?hn142009
        case hy142009 => (intro wz hSw; (try dsimp only at hSw); go_simp; first | done | with_reducible rfl)
        try simp only [List.getElem_toArray, List.getElem_cons_zero, List.getElem_cons_succ, Act.put, List.setIfInBounds_toArray, List.set_cons_zero, List.set_cons_succ]
        refine' wpAnyH_take (i := 10) (v := undef) rfl (by kernel_rfl) (by kernel_rfl) (by kernel_rfl) (fun _ _ _ h => h) (Or.inr ⟨by rfl, rfl⟩) hHeld ?hn142010
        try simp only [List.getElem_toArray, List.getElem_cons_zero, List.getElem_cons_succ, Act.put, List.setIfInBounds_toArray, List.set_cons_zero, List.set_cons_succ]
        refine' wpAnyH_take (i := 11) (v := undef) rfl (by kernel_rfl) (by kernel_rfl) (by kernel_rfl) (fun _ _ _ h => h) (Or.inr ⟨by rfl, rfl⟩) hHeld ?hn142011
        try simp only [List.getElem_toArray, List.getElem_cons_zero, List.getElem_cons_succ, Act.put, List.setIfInBounds_toArray, List.set_cons_zero, List.set_cons_succ]
        refine' wpAnyH_take (i := 12) (v := undef) rfl (by kernel_rfl) (by kernel_rfl) (by kernel_rfl) (fun _ _ _ h => h) (Or.inr ⟨by rfl, rfl⟩) hHeld ?hn142012
        try simp only [List.getElem_toArray, List.getElem_cons_zero, List.getElem_cons_succ, Act.put, List.setIfInBounds_toArray, List.set_cons_zero, List.set_cons_succ]
        refine' wpAnyH_take (i := 13) (v := undef) rfl (by kernel_rfl) (by kernel_rfl) (by kernel_rfl) (fun _ _ _ h => h) (Or.inr ⟨by rfl, rfl⟩) hHeld ?hn142013
        try simp only [List.getElem_toArray, List.getElem_cons_zero, List.getElem_cons_succ, Act.put, List.setIfInBounds_toArray, List.set_cons_zero, List.set_cons_succ]
        refine' wpAnyH_take (i := 14) (v := undef) rfl (by kernel_rfl) (by kernel_rfl) (by kernel_rfl) (fun _ _ _ h => h) (Or.inr ⟨by rfl, rfl⟩) hHeld ?hn142014
        try simp only [List.getElem_toArray, List.getElem_cons_zero, List.getElem_cons_succ, Act.put, List.setIfInBounds_toArray, List.set_cons_zero, List.set_cons_succ]
        refine' wpAnyH_take (i := 15) (v := undef) rfl (by kernel_rfl) (by kernel_rfl) (by kernel_rfl) (fun _ _ _ h => h) (Or.inr ⟨by rfl, rfl⟩) hHeld ?hn142015
        try simp only [List.getElem_toArray, List.getElem_cons_zero, List.getElem_cons_succ, Act.put, List.setIfInBounds_toArray, List.set_cons_zero, List.set_cons_succ]
        refine' wpAnyH_take (i := 16) (v := undef) rfl (by kernel_rfl) (by kernel_rfl) (by kernel_rfl) (fun _ _ _ h => h) (Or.inr ⟨by rfl, rfl⟩) hHeld ?hn142016
        try simp only [List.getElem_toArray, List.getElem_cons_zero, List.getElem_cons_succ, Act.put, List.setIfInBounds_toArray, List.set_cons_zero, List.set_cons_succ]
        refine' wpAnyH_take (i := 17) (v := undef) rfl (by kernel_rfl) (by kernel_rfl) (by kernel_rfl) (fun _ _ _ h => h) (Or.inr ⟨by rfl, rfl⟩) hHeld ?hn142017
        try simp only [List.getElem_toArray, List.getElem_cons_zero, List.getElem_cons_succ, Act.put, List.setIfInBounds_toArray, List.set_cons_zero, List.set_cons_succ]
        refine' wpAnyH_take (i := 18) (v := _) rfl (by kernel_rfl) (by kernel_rfl) (by kernel_rfl) (fun _ _ _ h => h) (Or.inl ⟨by rfl, ?hy142018⟩) hHeld ?hn142018
        case hy142018 => (intro wz hSw; (try dsimp only at hSw); go_simp; first | done | with_reducible rfl)
        try simp only [List.getElem_toArray, List.getElem_cons_zero, List.getElem_cons_succ, Act.put, List.setIfInBounds_toArray, List.set_cons_zero, List.set_cons_succ]
        refine' wpAnyH_take (i := 19) (v := _) rfl (by kernel_rfl) (by kernel_rfl) (by kernel_rfl) (fun _ _ _ h => h) (Or.inl ⟨by rfl, ?hy142019⟩) hHeld ?hn142019
        case hy142019 => (intro wz hSw; (try dsimp only at hSw); go_simp; first | done | with_reducible rfl)
        try simp only [List.getElem_toArray, List.getElem_cons_zero, List.getElem_cons_succ, Act.put, List.setIfInBounds_toArray, List.set_cons_zero, List.set_cons_succ]
        refine' wpAnyH_take (i := 20) (v := _) rfl (by kernel_rfl) (by kernel_rfl) (by kernel_rfl) (fun _ _ _ h => h) (Or.inl ⟨by rfl, ?hy142020⟩) hHeld ?hn142020
        case hy142020 => (intro wz hSw; (try dsimp only at hSw); go_simp; first | done | with_reducible rfl)
        try simp only [List.getElem_toArray, List.getElem_cons_zero, List.getElem_cons_succ, Act.put, List.setIfInBounds_toArray, List.set_cons_zero, List.set_cons_succ]
        refine wpAnyH_done (by kernel_rfl) ?_ _
        have HBF : Hid (Below w1.heap.size w1 w8) := Below.then B_w5.out hHeld B_w5.out.size
        clear hHeld p0 p1
        have hoo := HOO.out
        first
        | (cases hoo; done)
        | (go_wp2
           go_ret
           exact ⟨rfl, HB1.out.trans (HBF.out.mono HB1.out.size)⟩)
      · go_wp2_with fail
        refine wp_region_held (S := (fun wz => Below w5.heap.size w5 wz)) (by kernel_rfl) ?_
        change wpAnyH _ _ _ _ _ _ _ _ (World.drew _)
        have hHeld := (show Below w5.heap.size w5 (World.drew w5) from (Below.refl _ _).drew)
        refine' wpAnyH_take (i := 0) (v := _) rfl (by kernel_rfl) (by kernel_rfl) (by kernel_rfl) (fun _ _ _ h => h) (Or.inl ⟨by rfl, ?hy142501⟩) hHeld ?hn142501
        case hy142501 => (intro wz hSw; (try dsimp only at hSw); go_simp; first | done | with_reducible rfl)
        try simp only [List.getElem_toArray, List.getElem_cons_zero, List.getElem_cons_succ, Act.put, List.setIfInBounds_toArray, List.set_cons_zero, List.set_cons_succ]
        refine' wpAnyH_take (i := 1) (v := _) rfl (by kernel_rfl) (by kernel_rfl) (by kernel_rfl) (fun _ _ _ h => h) (Or.inl ⟨by rfl, ?hy142502⟩) hHeld ?hn142502
        case hy142502 => (intro wz hSw; (try dsimp only at hSw); go_simp; first | done | with_reducible rfl)
        try simp only [List.getElem_toArray, List.getElem_cons_zero, List.getElem_cons_succ, Act.put, List.setIfInBounds_toArray, List.set_cons_zero, List.set_cons_succ]
        refine' wpAnyH_take (i := 2) (v := (.slice la ls.length lc)) rfl (by kernel_rfl) (by kernel_rfl) (by kernel_rfl) (fun _ _ _ h => h) (Or.inl ⟨by rfl, ?hy142503⟩) hHeld ?hn142503
        case hy142503 => (intro wz hSw; have j0 := cell_later hSw p0; have j1 := cell_later hSw p1; go_simp)
        try simp only [List.getElem_toArray, List.getElem_cons_zero, List.getElem_cons_succ, Act.put, List.setIfInBounds_toArray, List.set_cons_zero, List.set_cons_succ]
        refine' wpAnyH_take (i := 3) (v := _) rfl (by kernel_rfl) (by kernel_rfl) (by kernel_rfl) (fun _ _ _ h => h) (Or.inl ⟨by rfl, ?hy142504⟩) hHeld ?hn142504
        case hy142504 => (intro wz hSw; (try dsimp only at hSw); go_simp; first | done | with_reducible rfl)
        try simp only [List.getElem_toArray, List.getElem_cons_zero, List.getElem_cons_succ, Act.put, List.setIfInBounds_toArray, List.set_cons_zero, List.set_cons_succ]
        refine' wpAnyH_take (i := 4) (v := (.slice sa l.length sc)) rfl (by kernel_rfl) (by kernel_rfl) (by kernel_rfl) (fun _ _ _ h => h) (Or.inl ⟨by rfl, ?hy142505⟩) hHeld ?hn142505
        case hy142505 => (intro wz hSw; have j0 := cell_later hSw p0; have j1 := cell_later hSw p1; go_simp)
        try simp only [List.getElem_toArray, List.getElem_cons_zero, List.getElem_cons_succ, Act.put, List.setIfInBounds_toArray, List.set_cons_zero, List.set_cons_succ]
        refine' wpAnyH_take (i := 5) (v := _) rfl (by kernel_rfl) (by kernel_rfl) (by kernel_rfl) (fun _ _ _ h => h) (Or.inl ⟨by rfl, ?hy142506⟩) hHeld ?hn142506
        case hy142506 => (intro wz hSw; (try dsimp only at hSw); go_simp; first | done | with_reducible rfl)
        try simp only [List.getElem_toArray, List.getElem_cons_zero, List.getElem_cons_succ, Act.put, List.setIfInBounds_toArray, List.set_cons_zero, List.set_cons_succ]
        refine' wpAnyH_take (i := 6) (v := (.slice sa q sc)) rfl (by kernel_rfl) (by kernel_rfl) (by kernel_rfl) (fun _ _ _ h => h) (Or.inl ⟨by rfl, ?hy142507⟩) hHeld ?hn142507
        case hy142507 => (intro wz hSw; have j1 := cell_later hSw p1; have hcl := HCL.out; rcases HCS.out with ⟨h0, h1, -⟩ | ⟨b', off', h0, -⟩; (subst h0; cases sa <;> go_simp); (subst h0; go_simp))
        try simp only [List.getElem_toArray, List.getElem_cons_zero, List.getElem_cons_succ, Act.put, List.setIfInBounds_toArray, List.set_cons_zero, List.set_cons_succ]
        refine' wpAnyH_take (i := 7) (v := _) rfl (by kernel_rfl) (by kernel_rfl) (by kernel_rfl) (fun _ _ _ h => h) (Or.inl ⟨by rfl, ?hy142508⟩) hHeld ?hn142508
        case hy142508 => (intro wz hSw; (try dsimp only at hSw); go_simp; first | done | with_reducible rfl)
        try simp only [List.getElem_toArray, List.getElem_cons_zero, List.getElem_cons_succ, Act.put, List.setIfInBounds_toArray, List.set_cons_zero, List.set_cons_succ]
        refine wpAnyH_ready (rs := [8]) (by kernel_rfl) (by simp) ?_
        refine AllReadyH.cons rfl (fun K hK => ?_) AllReadyH.nil
        go_simp
        refine Calls.mono (C1.out _ hHeld) ?_; rintro e' w8 ⟨rfl, hbx⟩
        refine hK.out _ _ (Below.then hHeld hbx hHeld.size) (fun hHeld => ?_)
        clear hK K
        refine' wpAnyH_take (i := 9) (v := _) rfl (by kernel_rfl) (by kernel_rfl) (by kernel_rfl) (fun _ _ _ h => h) (Or.inl ⟨by rfl, ?hy142509⟩) hHeld ?hn142509
        case hy142509 => (intro wz hSw; (try dsimp only at hSw); go_simp; first | done | with_reducible rfl)
        try simp only [List.getElem_toArray, List.getElem_cons_zero, List.getElem_cons_succ, Act.put, List.setIfInBounds_toArray, List.set_cons_zero, List.set_cons_succ]
        refine' wpAnyH_take (i := 10) (v := _) rfl (by kernel_rfl) (by kernel_rfl) (by kernel_rfl) (fun _ _ _ h => h) (Or.inl ⟨by rfl, ?hy142510⟩) hHeld ?hn142510
        case hy142510 => (intro wz hSw; (try dsimp only at hSw); go_simp; first | done | with_reducible rfl)
        try simp only [List.getElem_toArray, List.getElem_cons_zero, List.getElem_cons_succ, Act.put, List.setIfInBounds_toArray, List.set_cons_zero, List.set_cons_succ]
        refine' wpAnyH_take (i := 11) (v := (.slice la ls.length lc)) rfl (by kernel_rfl) (by kernel_rfl) (by kernel_rfl) (fun _ _ _ h => h) (Or.inl ⟨by rfl, ?hy142511⟩) hHeld ?hn142511
        case hy142511 => (intro wz hSw; have j0 := cell_later hSw p0; have j1 := cell_later hSw p1; go_simp)
        try simp only [List.getElem_toArray, List.getElem_cons_zero, List.getElem_cons_succ, Act.put, List.setIfInBounds_toArray, List.set_cons_zero, List.set_cons_succ]
        refine' wpAnyH_take (i := 12) (v := _) rfl (by kernel_rfl) (by kernel_rfl) (by kernel_rfl) (fun _ _ _ h => h) (Or.inl ⟨by rfl, ?hy142512⟩) hHeld ?hn142512
        case hy142512 => (intro wz hSw; (try dsimp only at hSw); go_simp; first | done | with_reducible rfl)
        try simp only [List.getElem_toArray, List.getElem_cons_zero, List.getElem_cons_succ, Act.put, List.setIfInBounds_toArray, List.set_cons_zero, List.set_cons_succ]
        refine' wpAnyH_take (i := 13) (v := (.slice sa l.length sc)) rfl (by kernel_rfl) (by kernel_rfl) (by kernel_rfl) (fun _ _ _ h => h) (Or.inl ⟨by rfl, ?hy142513⟩) hHeld ?hn142513
        case hy142513 => (intro wz hSw; have j0 := cell_later hSw p0; have j1 := cell_later hSw p1; go_simp)
        try simp only [List.getElem_toArray, List.getElem_cons_zero, List.getElem_cons_succ, Act.put, List.setIfInBounds_toArray, List.set_cons_zero, List.set_cons_succ]
        refine' wpAnyH_take (i := 14) (v := _) rfl (by kernel_rfl) (by kernel_rfl) (by kernel_rfl) (fun _ _ _ h => h) (Or.inl ⟨by rfl, ?hy142514⟩) hHeld ?hn142514
        case hy142514 => (intro wz hSw; (try dsimp only at hSw); go_simp; first | done | with_reducible rfl)
        try simp only [List.getElem_toArray, List.getElem_cons_zero, List.getElem_cons_succ, Act.put, List.setIfInBounds_toArray, List.set_cons_zero, List.set_cons_succ]
        refine' wpAnyH_take (i := 15) (v := (.slice vba vbl vbc)) rfl (by kernel_rfl) (by kernel_rfl) (by kernel_rfl) (fun _ _ _ h => h) (Or.inl ⟨by rfl, ?hy142515⟩) hHeld ?hn142515
        case hy142515 => (intro wz hSw; have hcl := HCL.out; rcases HCS.out with ⟨h0, h1, h2⟩ | ⟨b', off', h0, h2⟩; (subst h0; rw [h2]; cases sa <;> go_simp); (subst h0; rw [h2]; by_cases hsc : sc = q; (rw [if_pos hsc]; go_simp; try omega); (rw [if_neg hsc]; go_simp; try omega)))
        try simp only [List.getElem_toArray, List.getElem_cons_zero, List.getElem_cons_succ, Act.put, List.setIfInBounds_toArray, List.set_cons_zero, List.set_cons_succ]
        refine' wpAnyH_take (i := 16) (v := _) rfl (by kernel_rfl) (by kernel_rfl) (by kernel_rfl) (fun _ _ _ h => h) (Or.inl ⟨by rfl, ?hy142516⟩) hHeld ?hn142516
        case hy142516 => (intro wz hSw; (try dsimp only at hSw); go_simp; first | done | with_reducible rfl)
        try simp only [List.getElem_toArray, List.getElem_cons_zero, List.getElem_cons_succ, Act.put, List.setIfInBounds_toArray, List.set_cons_zero, List.set_cons_succ]
        refine wpAnyH_ready (rs := [17]) (by kernel_rfl) (by simp) ?_
        refine AllReadyH.cons rfl (fun K hK => ?_) AllReadyH.nil
        go_simp
        refine Calls.mono (C2.out _ hHeld) ?_; rintro e' w9 ⟨rfl, hbx⟩
        refine hK.out _ _ (Below.then hHeld hbx hHeld.size) (fun hHeld => ?_)
        clear hK K
        refine' wpAnyH_take (i := 18) (v := _) rfl (by kernel_rfl) (by kernel_rfl) (by kernel_rfl) (fun _ _ _ h => h) (Or.inl ⟨by rfl, ?hy142517⟩) hHeld ?hn142517
        case hy142517 => (intro wz hSw; (try dsimp only at hSw); go_simp; first | done | with_reducible rfl)
        try simp only [List.getElem_toArray, List.getElem_cons_zero, List.getElem_cons_succ, Act.put, List.setIfInBounds_toArray, List.set_cons_zero, List.set_cons_succ]
        refine' wpAnyH_take (i := 19) (v := _) rfl (by kernel_rfl) (by kernel_rfl) (by kernel_rfl) (fun _ _ _ h => h) (Or.inl ⟨by rfl, ?hy142518⟩) hHeld ?hn142518
        case hy142518 => (intro wz hSw; (try dsimp only at hSw); go_simp; first | done | with_reducible rfl)
        try simp only [List.getElem_toArray, List.getElem_cons_zero, List.getElem_cons_succ, Act.put, List.setIfInBounds_toArray, List.set_cons_zero, List.set_cons_succ]
        refine' wpAnyH_take (i := 20) (v := _) rfl (by kernel_rfl) (by kernel_rfl) (by kernel_rfl) (fun _ _ _ h => h) (Or.inl ⟨by rfl, ?hy142519⟩) hHeld ?hn142519
        case hy142519 => (intro wz hSw; (try dsimp only at hSw); go_simp; first | done | with_reducible rfl)
        try simp only [List.getElem_toArray, List.getElem_cons_zero, List.getElem_cons_succ, Act.put, List.setIfInBounds_toArray, List.set_cons_zero, List.set_cons_succ]
        refine wpAnyH_done (by kernel_rfl) ?_ _
        have HBF : Hid (Below w1.heap.size w1 w9) := Below.then B_w5.out hHeld B_w5.out.size
        clear hHeld p0 p1
        have hoo := HOO.out
        cases o2
        · first
          | (cases hoo; done)
          | (go_wp2
             go_ret
             exact ⟨rfl, HB1.out.trans (HBF.out.mono HB1.out.size)⟩)
        · first
          | (cases hoo; done)
          | (go_wp2
             go_ret
             exact ⟨rfl, HB1.out.trans (HBF.out.mono HB1.out.size)⟩)
end Go.Proofs.YtpmhkhajahoaaaaDoor
