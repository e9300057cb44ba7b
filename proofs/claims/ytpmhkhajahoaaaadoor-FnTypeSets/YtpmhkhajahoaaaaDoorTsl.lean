/- Who trusts what is set, by the model. -/
import Derived.Test.YtpmhkhajahoaaaaDoorTis
import Derived.Test.YtpmhkhajahoaaaaDoorDpr
import Derived.Test.YtpmhkhajahoaaaaDoorLbl
import Derived.Test.YtpmhkhajahoaaaaDoorTyx
namespace Go.Proofs.YtpmhkhajahoaaaaDoor
open Go.RowKit
set_option linter.unusedSimpArgs false
set_option linter.unusedVariables false
attribute [local go_sem] World.cell?_alloc_some
theorem either_b (a b : Int) (w : World) (a0 : 0 ≤ a) (a7 : a ≤ 7) (b0 : 0 ≤ b) (b7 : b ≤ 7) : Calls Tryd.prog 85 #[.int .i64 a, .int .i64 b] w fun e w' => e = .returned (.int .i64 (orI a b)) ∧ Below w.heap.size w w' :=
  (l1Either_any a b w a0 a7 b0 b7).mono (fun e w' h => ⟨h.1, by rw [h.2]; exact Below.refl _ _⟩)

set_option maxHeartbeats 8000000 in
set_option maxRecDepth 20000 in
theorem l11Sets_any (W : World) {ls : List (Int × Int)} (hls : labsB ls = true) {la pa : Option Addr} {lc pn pc : Nat} (hL : LRep W (.slice la ls.length lc) ls) : ∀ (d : Nat) (T : Tr d) (deep : Int) (tv : Value) (w : World), Rep W d tv T → Below W.heap.size W w → stB ls.length d deep T = true →
    Calls Tryd.prog 55 #[.agg #[.slice la ls.length lc, .slice pa pn pc], tv] w fun e w' => e = .returned (.int .i64 (setT ls d T)) ∧ Below w.heap.size w w' := by
  intro d
  induction d with
  | zero =>
    intro T deep tv w hr hb hst
    obtain ⟨a, c, rfl⟩ := hr
    have HA : Hid (Below w.heap.size w (w.alloc (.cells #[.slice la ls.length lc, .slice pa pn pc] 26))) := (Below.refl _ _).alloc (Nat.le_refl _) _
    go_enter Tryd.func55, Tryd.ntmps55
    go_wp2
    refine wp_loop_rounds 1 ?_
    rw [rounds_succ]
    go_wp2
    exact bodyPost_ret (v := .int .i64 0) (by simp [results, Tryd.results55, go_sem]) rfl ⟨rfl, HA.out⟩
  | succ d ih =>
    intro (l : List (Pay × Tr d × Tr d)) deep tv w hr hb hst
    obtain ⟨a, c, rfl, hlc, hcm, hcell⟩ := hr
    have hlm : (l.length : Int) ≤ 9223372036854775807 := by unfold maxLen at hcm; omega
    have HC : Hid (∀ i (hi : i < l.length), ∃ (p : Pay) (T1 T2 : Tr d) (b off : Nat) (ta : Option Addr) (tc : Nat) (ea : Option Addr) (ec : Nat), l[i] = (p, T1, T2) ∧ a = some ⟨b, off, none⟩ ∧ StepAt W b (off + i * 8) p (.slice ta (ln d T1) tc) (.slice ea (ln d T2) ec) ∧ Rep W d (.slice ta (ln d T1) tc) T1 ∧ Rep W d (.slice ea (ln d T2) ec) T2) := (show ∀ i (hi : i < l.length), _ by
      intro i hi
      obtain ⟨b, off, t, e, ha, hS, r1, r2⟩ := hcell i hi
      obtain ⟨ta, tc, rfl⟩ := r1.slice
      obtain ⟨ea, ec, rfl⟩ := r2.slice
      exact ⟨_, _, _, b, off, ta, tc, ea, ec, rfl, ha, hS, r1, r2⟩)
    have HST : Hid (∀ i (hi : i < l.length), payB ls.length l[i].1 (decide (ln d l[i].2.1 + ln d l[i].2.2 = 0)) = true ∧ stB ls.length d (deep - 1) l[i].2.1 = true ∧ stB ls.length d (deep - 1) l[i].2.2 = true) := (show ∀ i (hi : i < l.length), _ by
      intro i hi
      have hs' : (l.all fun x => decide (1 ≤ deep) && payB ls.length x.1 (decide (ln d x.2.1 + ln d x.2.2 = 0)) && (stB ls.length d (deep - 1) x.2.1 && stB ls.length d (deep - 1) x.2.2)) = true := hst
      have hx := List.all_eq_true.1 hs' l[i] (List.getElem_mem hi)
      simp only [Bool.and_eq_true_iff] at hx
      exact ⟨hx.1.2, hx.2.1, hx.2.2⟩)
    have IH : Hid _ := ih
    have HBW : Hid (Below W.heap.size W w) := hb
    have hWs : W.heap.size ≤ w.heap.size := hb.size
    have A0 : Below w.heap.size w (w.alloc (.cells #[.slice la ls.length lc, .slice pa pn pc] 26)) := (Below.refl _ _).alloc (Nat.le_refl _) _
    have G0 := C2.new w (.slice la ls.length lc) (.slice pa pn pc) 26
    have HA0 : Hid _ := A0
    have HG0 : Hid _ := G0
    have HL : Hid (LRep W (.slice la ls.length lc) ls) := hL
    clear ih hcell hb hst A0 G0 hL
    go_enter Tryd.func55, Tryd.ntmps55
    go_wp2
    go_loopw [5, 6] (fun o j wr => ∃ (i : Nat), i ≤ l.length ∧ j = .int .i64 i ∧ o = .int .i64 (setT ls (d + 1) (l.take i : List (Pay × Tr d × Tr d))) ∧ Below w.heap.size w wr ∧ wr.cell? ⟨w.heap.size, 0, none⟩ = some (.slice la ls.length lc) ∧ wr.cell? ⟨w.heap.size, 1, none⟩ = some (.slice pa pn pc)) (fun _ j _ => l.length - (intOf j).toNat)
    case atStart => exact ⟨0, by omega, rfl, rfl, HA0.out, HG0.out.1.1, HG0.out.1.2⟩
    case round =>
      obtain ⟨i, hi, rfl, rfl, hB, b0, b1⟩ := hrel
      have HB : Hid _ := hB
      have zr : w.heap.size ≤ wr.heap.size := hB.size
      clear hB
      have i0' : (0 : Int) ≤ (i : Int) := by omega
      by_cases hlt : i < l.length
      · have i1' : (i : Int) < (l.length : Int) := by omega
        obtain ⟨p, T1, T2, b, off, ta, tc, ea, ec, hx, rfl, hS, r1, r2⟩ := HC.out i hlt
        obtain ⟨hp, hs1, hs2⟩ := HST.out i hlt
        have q5 := setT_take ls l i hlt
        have t5 := setT_bd hls (d + 1) (l.take i : List (Pay × Tr d × Tr d))
        rw [hx] at hp hs1 hs2 q5
        dsimp only at hp hs1 hs2
        have BW : Below W.heap.size W wr := Below.then HBW.out HB.out HBW.out.size
        obtain ⟨k0, k1, k2, k3, k4, k5, k6, k7⟩ := hS.on (w' := wr) (fun a v h => cell_later BW h)
        obtain ⟨hvn, -⟩ := payB_cases hp
        obtain ⟨hv0, hv1⟩ : 0 ≤ p.v ∧ p.v < ls.length := by simpa [vIn] using hvn
        have A1 : Below wr.heap.size wr (wr.alloc (.cells #[.int .i64 p.k, .int .i64 p.v, .int .i64 p.vk, .int .i64 p.va, .int .i64 p.vb, .int .i64 p.h, .slice ta (ln d T1) tc, .slice ea (ln d T2) ec] 43)) := (Below.refl _ _).alloc (Nat.le_refl _) _
        have IH1 : Hid (∀ wz, Below W.heap.size W wz → Calls Tryd.prog 55 #[.agg #[.slice la ls.length lc, .slice pa pn pc], .slice ta (ln d T1) tc] wz fun e w' => e = .returned (.int .i64 (setT ls d T1)) ∧ Below wz.heap.size wz w') := (show ∀ wz, _ from fun wz hb => IH.out T1 (deep - 1) _ wz r1 hb hs1)
        have IH2 : Hid (∀ wz, Below W.heap.size W wz → Calls Tryd.prog 55 #[.agg #[.slice la ls.length lc, .slice pa pn pc], .slice ea (ln d T2) ec] wz fun e w' => e = .returned (.int .i64 (setT ls d T2)) ∧ Below wz.heap.size wz w') := (show ∀ wz, _ from fun wz hb => IH.out T2 (deep - 1) _ wz r2 hb hs2)
        have u1 := setT_bd hls d T1
        have u2 := setT_bd hls d T2
        have u3 := orI_bd u1.1 u1.2 u2.1 u2.2
        have CE1 : Hid _ := fun wz => either_b (setT ls d T1) (setT ls d T2) wz u1.1 u1.2 u2.1 u2.2
        have hlv := (lab_ok hls p.v).2
        have HQE : Hid (setT ls (d + 1) (l.take (i + 1) : List (Pay × Tr d × Tr d)) = orI (setT ls (d + 1) (l.take i : List (Pay × Tr d × Tr d))) (orI (if p.k = 1 then (lab ls p.v).2 else 0) (orI (setT ls d T1) (setT ls d T2)))) := (show setT ls (d + 1) (l.take (i + 1) : List (Pay × Tr d × Tr d)) = _ from q5)
        have HBA : Hid (Below w.heap.size w (wr.alloc (.cells #[.int .i64 p.k, .int .i64 p.v, .int .i64 p.vk, .int .i64 p.va, .int .i64 p.vb, .int .i64 p.h, .slice ta (ln d T1) tc, .slice ea (ln d T2) ec] 43))) := Below.then HB.out A1 HB.out.size
        have HWA : Hid (Below W.heap.size W (wr.alloc (.cells #[.int .i64 p.k, .int .i64 p.v, .int .i64 p.vk, .int .i64 p.va, .int .i64 p.vb, .int .i64 p.h, .slice ta (ln d T1) tc, .slice ea (ln d T2) ec] 43))) := Below.then BW A1 BW.size
        have HA1 : Hid _ := A1
        have HS8 : Hid _ := (C8.new wr (.int .i64 p.k) (.int .i64 p.v) (.int .i64 p.vk) (.int .i64 p.va) (.int .i64 p.vb) (.int .i64 p.h) (.slice ta (ln d T1) tc) (.slice ea (ln d T2) ec) 43).1
        obtain ⟨lb, lf, hla, q0, q1⟩ := LRep.at (LRep.below BW HL.out) hv0 hv1
        subst hla
        generalize hO : setT ls (d + 1) (l.take i : List (Pay × Tr d × Tr d)) = O at t5 HQE ⊢
        generalize setT ls d T1 = t1 at *
        generalize setT ls d T2 = t2 at *
        obtain ⟨pk, pv, vk, va, vb, ph⟩ := p
        dsimp only at *
        obtain ⟨v, rfl⟩ := Int.eq_ofNat_of_zero_le hv0
        simp only [Int.toNat_natCast] at q0 q1
        clear hx hS r1 r2 hp hs1 hs2 q5 hvn hO A1 BW q0
        by_cases hk : pk = 1
        · subst hk
          have HQ1 : Hid (setT ls (d + 1) (l.take (i + 1) : List (Pay × Tr d × Tr d)) = orI (orI O (lab ls (v : Int)).2) (orI t1 t2)) := (show _ = _ by rw [HQE.out, if_pos rfl, orI_assoc])
          have hO2 := orI_bd t5.1 t5.2 hlv.1 hlv.2
          have CE0 : Hid _ := fun wz => either_b O (lab ls (v : Int)).2 wz t5.1 t5.2 hlv.1 hlv.2
          have CE2 : Hid _ := fun wz => either_b (orI O (lab ls (v : Int)).2) (orI t1 t2) wz hO2.1 hO2.2 u3.1 u3.2
          generalize lab ls (v : Int) = lx at *
          have HQ : Hid _ := HQ1.out
          clear HQE t5 hO2
          go_wp2_with fail
          go_at_call 85; refine Calls.mono (CE0.out _) ?_
          rintro e wb ⟨rfl, hbb⟩
          have BWb : Hid _ := Below.then HWA.out hbb HWA.out.size
          have HBb : Hid _ := Below.then HBA.out hbb HBA.out.size
          have b0 := cell_later hbb (cell_later HA1.out b0)
          have b1 := cell_later hbb (cell_later HA1.out b1)
          have x6 := cell_later hbb HS8.out.2.2.2.2.2.2.1
          have x7 := cell_later hbb HS8.out.2.2.2.2.2.2.2
          clear hbb k0 k1 k2 k3 k4 k5 k6 k7 q1 CE0
          go_wp2_with fail
          refine wp_region_held (S := (fun wz => Below wb.heap.size wb wz)) (by kernel_rfl) ?_
          change wpAnyH _ _ _ _ _ _ _ _ (World.drew _)
          have hHeld : (fun wz => Below wb.heap.size wb wz) (World.drew wb) := (Below.refl _ _).drew
          refine' wpAnyH_take (i := 0) (v := _) rfl (by kernel_rfl) (by kernel_rfl) (by kernel_rfl) (fun _ _ _ h => h) (Or.inl ⟨by rfl, ?hy120001⟩) hHeld ?hn120001
          case hy120001 => (intro wz hSw; go_simp; first | done | with_reducible rfl)
          try simp only [List.getElem_toArray, List.getElem_cons_zero, List.getElem_cons_succ, Act.put, List.setIfInBounds_toArray, List.set_cons_zero, List.set_cons_succ]
          refine' wpAnyH_take (i := 1) (v := (.agg #[.slice (some ⟨lb, lf, none⟩) ls.length lc, .slice pa pn pc])) rfl (by kernel_rfl) (by kernel_rfl) (by kernel_rfl) (fun _ _ _ h => h) (Or.inl ⟨by rfl, ?hy120002⟩) hHeld ?hn120002
          case hy120002 => (intro wz hSw; have j0 := cell_later hSw b0; have j1 := cell_later hSw b1; go_simp)
          try simp only [List.getElem_toArray, List.getElem_cons_zero, List.getElem_cons_succ, Act.put, List.setIfInBounds_toArray, List.set_cons_zero, List.set_cons_succ]
          refine' wpAnyH_take (i := 2) (v := _) rfl (by kernel_rfl) (by kernel_rfl) (by kernel_rfl) (fun _ _ _ h => h) (Or.inl ⟨by rfl, ?hy120003⟩) hHeld ?hn120003
          case hy120003 => (intro wz hSw; go_simp; first | done | with_reducible rfl)
          try simp only [List.getElem_toArray, List.getElem_cons_zero, List.getElem_cons_succ, Act.put, List.setIfInBounds_toArray, List.set_cons_zero, List.set_cons_succ]
          refine' wpAnyH_take (i := 3) (v := (.slice ta (ln d T1) tc)) rfl (by kernel_rfl) (by kernel_rfl) (by kernel_rfl) (fun _ _ _ h => h) (Or.inl ⟨by rfl, ?hy120004⟩) hHeld ?hn120004
          case hy120004 => (intro wz hSw; have j0 := cell_later hSw x6; go_simp)
          try simp only [List.getElem_toArray, List.getElem_cons_zero, List.getElem_cons_succ, Act.put, List.setIfInBounds_toArray, List.set_cons_zero, List.set_cons_succ]
          refine' wpAnyH_take (i := 5) (v := (.agg #[.slice (some ⟨lb, lf, none⟩) ls.length lc, .slice pa pn pc])) rfl (by kernel_rfl) (by kernel_rfl) (by kernel_rfl) (fun _ _ _ h => h) (Or.inl ⟨by rfl, ?hy120005⟩) hHeld ?hn120005
          case hy120005 => (intro wz hSw; have j0 := cell_later hSw b0; have j1 := cell_later hSw b1; go_simp)
          try simp only [List.getElem_toArray, List.getElem_cons_zero, List.getElem_cons_succ, Act.put, List.setIfInBounds_toArray, List.set_cons_zero, List.set_cons_succ]
          refine' wpAnyH_take (i := 6) (v := _) rfl (by kernel_rfl) (by kernel_rfl) (by kernel_rfl) (fun _ _ _ h => h) (Or.inl ⟨by rfl, ?hy120006⟩) hHeld ?hn120006
          case hy120006 => (intro wz hSw; go_simp; first | done | with_reducible rfl)
          try simp only [List.getElem_toArray, List.getElem_cons_zero, List.getElem_cons_succ, Act.put, List.setIfInBounds_toArray, List.set_cons_zero, List.set_cons_succ]
          refine' wpAnyH_take (i := 7) (v := (.slice ea (ln d T2) ec)) rfl (by kernel_rfl) (by kernel_rfl) (by kernel_rfl) (fun _ _ _ h => h) (Or.inl ⟨by rfl, ?hy120007⟩) hHeld ?hn120007
          case hy120007 => (intro wz hSw; have j0 := cell_later hSw x7; go_simp)
          try simp only [List.getElem_toArray, List.getElem_cons_zero, List.getElem_cons_succ, Act.put, List.setIfInBounds_toArray, List.set_cons_zero, List.set_cons_succ]
          refine wpAnyH_ready (rs := [4]) (by kernel_rfl) (by simp) ?_
          refine AllReadyH.cons rfl (fun K hK => ?_) AllReadyH.nil
          go_simp
          refine Calls.mono (IH1.out _ (Below.then BWb.out hHeld BWb.out.size)) ?_
          rintro e y1 ⟨rfl, hbx⟩
          refine hK.out _ _ (Below.then hHeld hbx hHeld.size) (fun hHeld => ?_)
          clear hK K
          refine wpAnyH_ready (rs := [8]) (by kernel_rfl) (by simp) ?_
          refine AllReadyH.cons rfl (fun K hK => ?_) AllReadyH.nil
          go_simp
          refine Calls.mono (IH2.out _ (Below.then BWb.out hHeld BWb.out.size)) ?_
          rintro e y2 ⟨rfl, hbx⟩
          refine hK.out _ _ (Below.then hHeld hbx hHeld.size) (fun hHeld => ?_)
          clear hK K
          refine wpAnyH_ready (rs := [9]) (by kernel_rfl) (by simp) ?_
          refine AllReadyH.cons rfl (fun K hK => ?_) AllReadyH.nil
          go_simp
          refine Calls.mono (CE1.out _) ?_
          rintro e y3 ⟨rfl, hbx⟩
          refine hK.out _ _ (Below.then hHeld hbx hHeld.size) (fun hHeld => ?_)
          clear hK K
          refine wpAnyH_ready (rs := [10]) (by kernel_rfl) (by simp) ?_
          refine AllReadyH.cons rfl (fun K hK => ?_) AllReadyH.nil
          go_simp
          refine Calls.mono (CE2.out _) ?_
          rintro e y4 ⟨rfl, hbx⟩
          refine hK.out _ _ (Below.then hHeld hbx hHeld.size) (fun hHeld => ?_)
          clear hK K
          refine' wpAnyH_take (i := 11) (v := _) rfl (by kernel_rfl) (by kernel_rfl) (by kernel_rfl) (fun _ _ _ h => h) (Or.inl ⟨by rfl, ?hy120008⟩) hHeld ?hn120008
          case hy120008 => (intro wz hSw; go_simp; first | done | with_reducible rfl)
          try simp only [List.getElem_toArray, List.getElem_cons_zero, List.getElem_cons_succ, Act.put, List.setIfInBounds_toArray, List.set_cons_zero, List.set_cons_succ]
          refine wpAnyH_done (by kernel_rfl) ?_ _
          have HBF : Hid (Below w.heap.size w y4) := Below.then HBb.out hHeld HBb.out.size
          replace b0 := cell_later hHeld b0
          replace b1 := cell_later hHeld b1
          have HB0 : Hid _ := b0
          have HB1 : Hid _ := b1
          clear hHeld x6 x7
          go_wp2
          exact ⟨⟨i + 1, by omega, by simp, by rw [HQ.out], HBF.out, HB0.out, HB1.out⟩, by simp [intOf]; omega⟩
        · have HQ1 : Hid (setT ls (d + 1) (l.take (i + 1) : List (Pay × Tr d × Tr d)) = orI O (orI t1 t2)) := (show _ = _ by rw [HQE.out, if_neg hk, orI_zero (orI_nn _ _)])
          have CE2 : Hid _ := fun wz => either_b O (orI t1 t2) wz t5.1 t5.2 u3.1 u3.2
          have HQ : Hid _ := HQ1.out
          clear HQE t5
          go_wp2_with fail
          generalize hwb : wr.alloc (.cells #[.int .i64 pk, .int .i64 (v : Int), .int .i64 vk, .int .i64 va, .int .i64 vb, .int .i64 ph, .slice ta (ln d T1) tc, .slice ea (ln d T2) ec] 43) = wb at *
          have BWb : Hid _ := HWA.out
          have HBb : Hid _ := HBA.out
          replace b0 := cell_later HA1.out b0
          replace b1 := cell_later HA1.out b1
          have x6 := HS8.out.2.2.2.2.2.2.1
          have x7 := HS8.out.2.2.2.2.2.2.2
          clear k0 k1 k2 k3 k4 k5 k6 k7 q1 hwb
          refine wp_region_held (S := (fun wz => Below wb.heap.size wb wz)) (by kernel_rfl) ?_
          change wpAnyH _ _ _ _ _ _ _ _ (World.drew _)
          have hHeld : (fun wz => Below wb.heap.size wb wz) (World.drew wb) := (Below.refl _ _).drew
          refine' wpAnyH_take (i := 0) (v := _) rfl (by kernel_rfl) (by kernel_rfl) (by kernel_rfl) (fun _ _ _ h => h) (Or.inl ⟨by rfl, ?hy120009⟩) hHeld ?hn120009
          case hy120009 => (intro wz hSw; go_simp; first | done | with_reducible rfl)
          try simp only [List.getElem_toArray, List.getElem_cons_zero, List.getElem_cons_succ, Act.put, List.setIfInBounds_toArray, List.set_cons_zero, List.set_cons_succ]
          refine' wpAnyH_take (i := 1) (v := (.agg #[.slice (some ⟨lb, lf, none⟩) ls.length lc, .slice pa pn pc])) rfl (by kernel_rfl) (by kernel_rfl) (by kernel_rfl) (fun _ _ _ h => h) (Or.inl ⟨by rfl, ?hy120010⟩) hHeld ?hn120010
          case hy120010 => (intro wz hSw; have j0 := cell_later hSw b0; have j1 := cell_later hSw b1; go_simp)
          try simp only [List.getElem_toArray, List.getElem_cons_zero, List.getElem_cons_succ, Act.put, List.setIfInBounds_toArray, List.set_cons_zero, List.set_cons_succ]
          refine' wpAnyH_take (i := 2) (v := _) rfl (by kernel_rfl) (by kernel_rfl) (by kernel_rfl) (fun _ _ _ h => h) (Or.inl ⟨by rfl, ?hy120011⟩) hHeld ?hn120011
          case hy120011 => (intro wz hSw; go_simp; first | done | with_reducible rfl)
          try simp only [List.getElem_toArray, List.getElem_cons_zero, List.getElem_cons_succ, Act.put, List.setIfInBounds_toArray, List.set_cons_zero, List.set_cons_succ]
          refine' wpAnyH_take (i := 3) (v := (.slice ta (ln d T1) tc)) rfl (by kernel_rfl) (by kernel_rfl) (by kernel_rfl) (fun _ _ _ h => h) (Or.inl ⟨by rfl, ?hy120012⟩) hHeld ?hn120012
          case hy120012 => (intro wz hSw; have j0 := cell_later hSw x6; go_simp)
          try simp only [List.getElem_toArray, List.getElem_cons_zero, List.getElem_cons_succ, Act.put, List.setIfInBounds_toArray, List.set_cons_zero, List.set_cons_succ]
          refine' wpAnyH_take (i := 5) (v := (.agg #[.slice (some ⟨lb, lf, none⟩) ls.length lc, .slice pa pn pc])) rfl (by kernel_rfl) (by kernel_rfl) (by kernel_rfl) (fun _ _ _ h => h) (Or.inl ⟨by rfl, ?hy120013⟩) hHeld ?hn120013
          case hy120013 => (intro wz hSw; have j0 := cell_later hSw b0; have j1 := cell_later hSw b1; go_simp)
          try simp only [List.getElem_toArray, List.getElem_cons_zero, List.getElem_cons_succ, Act.put, List.setIfInBounds_toArray, List.set_cons_zero, List.set_cons_succ]
          refine' wpAnyH_take (i := 6) (v := _) rfl (by kernel_rfl) (by kernel_rfl) (by kernel_rfl) (fun _ _ _ h => h) (Or.inl ⟨by rfl, ?hy120014⟩) hHeld ?hn120014
          case hy120014 => (intro wz hSw; go_simp; first | done | with_reducible rfl)
          try simp only [List.getElem_toArray, List.getElem_cons_zero, List.getElem_cons_succ, Act.put, List.setIfInBounds_toArray, List.set_cons_zero, List.set_cons_succ]
          refine' wpAnyH_take (i := 7) (v := (.slice ea (ln d T2) ec)) rfl (by kernel_rfl) (by kernel_rfl) (by kernel_rfl) (fun _ _ _ h => h) (Or.inl ⟨by rfl, ?hy120015⟩) hHeld ?hn120015
          case hy120015 => (intro wz hSw; have j0 := cell_later hSw x7; go_simp)
          try simp only [List.getElem_toArray, List.getElem_cons_zero, List.getElem_cons_succ, Act.put, List.setIfInBounds_toArray, List.set_cons_zero, List.set_cons_succ]
          refine wpAnyH_ready (rs := [4]) (by kernel_rfl) (by simp) ?_
          refine AllReadyH.cons rfl (fun K hK => ?_) AllReadyH.nil
          go_simp
          refine Calls.mono (IH1.out _ (Below.then BWb.out hHeld BWb.out.size)) ?_
          rintro e y1 ⟨rfl, hbx⟩
          refine hK.out _ _ (Below.then hHeld hbx hHeld.size) (fun hHeld => ?_)
          clear hK K
          refine wpAnyH_ready (rs := [8]) (by kernel_rfl) (by simp) ?_
          refine AllReadyH.cons rfl (fun K hK => ?_) AllReadyH.nil
          go_simp
          refine Calls.mono (IH2.out _ (Below.then BWb.out hHeld BWb.out.size)) ?_
          rintro e y2 ⟨rfl, hbx⟩
          refine hK.out _ _ (Below.then hHeld hbx hHeld.size) (fun hHeld => ?_)
          clear hK K
          refine wpAnyH_ready (rs := [9]) (by kernel_rfl) (by simp) ?_
          refine AllReadyH.cons rfl (fun K hK => ?_) AllReadyH.nil
          go_simp
          refine Calls.mono (CE1.out _) ?_
          rintro e y3 ⟨rfl, hbx⟩
          refine hK.out _ _ (Below.then hHeld hbx hHeld.size) (fun hHeld => ?_)
          clear hK K
          refine wpAnyH_ready (rs := [10]) (by kernel_rfl) (by simp) ?_
          refine AllReadyH.cons rfl (fun K hK => ?_) AllReadyH.nil
          go_simp
          refine Calls.mono (CE2.out _) ?_
          rintro e y4 ⟨rfl, hbx⟩
          refine hK.out _ _ (Below.then hHeld hbx hHeld.size) (fun hHeld => ?_)
          clear hK K
          refine' wpAnyH_take (i := 11) (v := _) rfl (by kernel_rfl) (by kernel_rfl) (by kernel_rfl) (fun _ _ _ h => h) (Or.inl ⟨by rfl, ?hy120016⟩) hHeld ?hn120016
          case hy120016 => (intro wz hSw; go_simp; first | done | with_reducible rfl)
          try simp only [List.getElem_toArray, List.getElem_cons_zero, List.getElem_cons_succ, Act.put, List.setIfInBounds_toArray, List.set_cons_zero, List.set_cons_succ]
          refine wpAnyH_done (by kernel_rfl) ?_ _
          have HBF : Hid (Below w.heap.size w y4) := Below.then HBb.out hHeld HBb.out.size
          replace b0 := cell_later hHeld b0
          replace b1 := cell_later hHeld b1
          have HB0 : Hid _ := b0
          have HB1 : Hid _ := b1
          clear hHeld x6 x7
          go_wp2
          exact ⟨⟨i + 1, by omega, by simp, by rw [HQ.out], HBF.out, HB0.out, HB1.out⟩, by simp [intOf]; omega⟩
      · have : i = l.length := by omega
        subst this
        have HE : Hid (setT ls (d + 1) (l.take l.length : List (Pay × Tr d × Tr d)) = setT ls (d + 1) (l : List (Pay × Tr d × Tr d))) := (show _ = _ by rw [List.take_length])
        go_wp2
        exact bodyPost_ret (v := .int .i64 (setT ls (d + 1) (l.take l.length : List (Pay × Tr d × Tr d)))) (by simp [results, Tryd.results55, go_sem]) rfl ⟨by rw [HE.out], HB.out⟩

end Go.Proofs.YtpmhkhajahoaaaaDoor
