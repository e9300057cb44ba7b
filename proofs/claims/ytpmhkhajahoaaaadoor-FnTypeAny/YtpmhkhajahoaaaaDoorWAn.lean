/- Where everybody may know, and trusts, everything each program is fine: the law, walked. -/
import Derived.Test.YtpmhkhajahoaaaaDoorTmc
import Derived.Test.YtpmhkhajahoaaaaDoorTks
import Derived.Test.YtpmhkhajahoaaaaDoorDty
import Derived.Test.YtpmhkhajahoaaaaDoorDol
namespace Go.Proofs.YtpmhkhajahoaaaaDoor
open Go.RowKit
set_option linter.unusedSimpArgs false
set_option linter.unusedVariables false
attribute [local go_sem] World.cell?_alloc_some
theorem below_grownT {B : Nat} {a x y : World} {row : Option Nat} (h : Below B a x) (hg : x.grownBy y row) (hr : ∀ k, row = some k → B ≤ k) (hB : B ≤ x.heap.size) : Below B a y :=
  ⟨hg.os.trans h.os, hg.tape.trans h.tape, hg.output.trans h.output, Nat.le_trans h.size hg.size, fun k hk => (hg.block k (by omega) (fun e => by have := hr k e.symm; omega)).trans (h.block k hk)⟩

set_option maxHeartbeats 8000000 in
set_option maxRecDepth 20000 in
theorem fnTypeAny_walk (a0 : Option Addr) (len0 cap0 : Nat) (z0 : List Int) (w : World) (s0 s1 : Addr) (hg0 : w.cell? ⟨0, 0, none⟩ = some (.iface 152 (.pointer (some s0)))) (hg1 : w.cell? ⟨1, 0, none⟩ = some (.iface 152 (.pointer (some s1)))) (h0 : IsRow .u8 w a0 len0 cap0 z0) :
    Calls Tryd.prog 6 #[.slice a0 len0 cap0] w fun e w' => e = .returned (.bool true) ∧ Below w.heap.size w w' := by
  by_cases hl0 : (1048576 : Int) < (len0 : Int)
  · go_enter Tryd.func6, Tryd.ntmps6
    go_wp2
    go_ret
    exact ⟨rfl, Below.refl _ _⟩
  obtain ⟨i0, hi0, hz0, hz1, hz2⟩ := info_parts infoLabT
  have C1 : Hid _ := drawTypeOk_any w a0 len0 cap0 z0 h0
  have HG0 : Hid _ := hg0
  have HG1 : Hid _ := hg1
  clear h0 hg0 hg1
  go_enter Tryd.func6, Tryd.ntmps6
  go_wp2_with fail
  go_at_call 26; refine Calls.mono C1.out ?_
  rintro e w1 ⟨lv, sv, ls, d, l, rfl, hLp, hRp, ll, cn, hb1⟩
  have hL := hLp.rep
  have hR := hRp.rep
  obtain ⟨la, lc, rfl, hll, hlm, -⟩ := id hL
  obtain ⟨sa, sc, hsv, hslc, hscm, -⟩ := id hR
  subst hsv
  have hR : Rep w1 (d + 1) (.slice sa l.length sc) (l : List (Pay × Tr d × Tr d)) := hR
  have hlc8 : l.length ≤ 400 := Nat.le_trans (show l.length ≤ (cnt (d + 1) (l : List (Pay × Tr d × Tr d))) from ln_le_cnt (d + 1) (l : List (Pay × Tr d × Tr d))) cn
  have A : Below w1.heap.size w1 (w1.alloc (.cells #[.slice la ls.length lc, .slice sa l.length sc] 26)) := (Below.refl _ _).alloc (Nat.le_refl _) _
  have G2 := C2.new w1 (.slice la ls.length lc) (.slice sa l.length sc) 26
  have HLR : Hid (∀ wz, Below w1.heap.size w1 wz → LRep wz (.slice la ls.length lc) ls ∧ Rep wz (d + 1) (.slice sa l.length sc) (l : List (Pay × Tr d × Tr d)) ∧ wz.cell? ⟨0, 0, none⟩ = some (.iface 152 (.pointer (some s0))) ∧ wz.cell? ⟨1, 0, none⟩ = some (.iface 152 (.pointer (some s1)))) := (show ∀ wz, _ from fun wz hb => ⟨hL.below hb, hR.below hb, cell_later hb (cell_later hb1 HG0.out), cell_later hb (cell_later hb1 HG1.out)⟩)
  have HB1 : Hid (Below w.heap.size w w1) := hb1
  obtain ⟨ok, hok⟩ : ∃ x, (progB ls (d + 1) (l : List (Pay × Tr d × Tr d)) && !(whyR ls (d + 1) (l : List (Pay × Tr d × Tr d))).2) = x := ⟨_, rfl⟩
  have HOKV : Hid _ := hok
  have HT : Hid (∀ wz, Below w1.heap.size w1 wz → Calls Tryd.prog 27 #[.agg #[.slice la ls.length lc, .slice sa l.length sc]] wz fun e w' => e = .returned (.bool ok) ∧ Below wz.heap.size wz w') := (show ∀ wz, _ from fun wz hb => by
    rw [← hok]; exact typeOk_any (HLR.out wz hb).1 (HLR.out wz hb).2.1 (HLR.out wz hb).2.2.1 (HLR.out wz hb).2.2.2)
  have HS : Hid (∀ wz, Below w1.heap.size w1 wz → Calls Tryd.prog 24 #[.agg #[.slice la ls.length lc, .slice sa l.length sc]] wz fun e w' => e = .returned (.bool ok) ∧ Below wz.heap.size wz w') := (show ∀ wz, _ from fun wz hb => by
    rw [← hok]; exact sTypeOk_any (HLR.out wz hb).1 (HLR.out wz hb).2.1 (Nat.le_trans cn (by decide)))
  obtain ⟨pb, hpb⟩ : ∃ x, progB ls (d + 1) (l : List (Pay × Tr d × Tr d)) = x := ⟨_, rfl⟩
  have HPB : Hid _ := hpb
  have HP : Hid (∀ wz, Below w1.heap.size w1 wz → Calls Tryd.prog 18 #[.agg #[.slice la ls.length lc, .slice sa l.length sc]] wz fun e w' => e = .returned (.bool pb) ∧ Below wz.heap.size wz w') := (show ∀ wz, _ from fun wz hb => by
    rw [← hpb]; exact sProgOk_any (HLR.out wz hb).1 (HLR.out wz hb).2.1 (Nat.le_trans cn (by decide)))
  generalize hw2 : w1.alloc (.cells #[.slice la ls.length lc, .slice sa l.length sc] 26) = w2 at A G2
  have HW2 : Hid _ := hw2
  have B_w2 : Hid (Below w1.heap.size w1 w2) := A
  have G_w2 : Hid (C2 w2 w1.heap.size (.slice la ls.length lc) (.slice sa l.length sc)) := G2
  clear hLp hRp hb1 C1 A G2 hw2 hL hR hok hpb
  go_wp2_with fail
  rw [HW2.out]
  clear HW2
  obtain ⟨⟨p0, p1⟩, -⟩ := id G_w2.out
  cases ok
  · refine wp_region_held (S := (fun wz => Below w2.heap.size w2 wz)) (by kernel_rfl) ?_
    change wpAnyH _ _ _ _ _ _ _ _ (World.drew _)
    have hHeld := (show Below w2.heap.size w2 (World.drew w2) from (Below.refl _ _).drew)
    refine' wpAnyH_take (i := 0) (v := (.agg #[.slice la ls.length lc, .slice sa l.length sc])) rfl (by kernel_rfl) (by kernel_rfl) (by kernel_rfl) (fun _ _ _ h => h) (Or.inl ⟨by rfl, ?hy1⟩) hHeld ?hn1
    case hy1 => (intro wz hSw; have j0 := cell_later hSw p0; have j1 := cell_later hSw p1; go_simp)
    try simp only [List.getElem_toArray, List.getElem_cons_zero, List.getElem_cons_succ, Act.put, List.setIfInBounds_toArray, List.set_cons_zero, List.set_cons_succ]
    refine' wpAnyH_take (i := 2) (v := (.agg #[.slice la ls.length lc, .slice sa l.length sc])) rfl (by kernel_rfl) (by kernel_rfl) (by kernel_rfl) (fun _ _ _ h => h) (Or.inl ⟨by rfl, ?hy2⟩) hHeld ?hn2
    case hy2 => (intro wz hSw; have j0 := cell_later hSw p0; have j1 := cell_later hSw p1; go_simp)
    try simp only [List.getElem_toArray, List.getElem_cons_zero, List.getElem_cons_succ, Act.put, List.setIfInBounds_toArray, List.set_cons_zero, List.set_cons_succ]
    refine wpAnyH_ready (rs := [1]) (by kernel_rfl) (by simp) ?_
    refine AllReadyH.cons rfl (fun K hK => ?_) AllReadyH.nil
    go_simp
    refine Calls.mono (HT.out _ (Below.then B_w2.out hHeld B_w2.out.size)) ?_; rintro e' x3 ⟨rfl, hbx⟩
    refine hK.out _ _ (Below.then hHeld hbx hHeld.size) (fun hHeld => ?_)
    clear hK K
    refine wpAnyH_ready (rs := [3]) (by kernel_rfl) (by simp) ?_
    refine AllReadyH.cons rfl (fun K hK => ?_) AllReadyH.nil
    go_simp
    refine Calls.mono (HS.out _ (Below.then B_w2.out hHeld B_w2.out.size)) ?_; rintro e' x4 ⟨rfl, hbx⟩
    refine hK.out _ _ (Below.then hHeld hbx hHeld.size) (fun hHeld => ?_)
    clear hK K
    refine' wpAnyH_take (i := 4) (v := _) rfl (by kernel_rfl) (by kernel_rfl) (by kernel_rfl) (fun _ _ _ h => h) (Or.inl ⟨by rfl, ?hy3⟩) hHeld ?hn3
    case hy3 => (intro wz hSw; (try dsimp only at hSw); go_simp; first | done | with_reducible rfl)
    try simp only [List.getElem_toArray, List.getElem_cons_zero, List.getElem_cons_succ, Act.put, List.setIfInBounds_toArray, List.set_cons_zero, List.set_cons_succ]
    refine' wpAnyH_take (i := 5) (v := _) rfl (by kernel_rfl) (by kernel_rfl) (by kernel_rfl) (fun _ _ _ h => h) (Or.inl ⟨by rfl, ?hy4⟩) hHeld ?hn4
    case hy4 => (intro wz hSw; (try dsimp only at hSw); go_simp; first | done | with_reducible rfl)
    try simp only [List.getElem_toArray, List.getElem_cons_zero, List.getElem_cons_succ, Act.put, List.setIfInBounds_toArray, List.set_cons_zero, List.set_cons_succ]
    refine' wpAnyH_take (i := 6) (v := (.agg #[.slice la ls.length lc, .slice sa l.length sc])) rfl (by kernel_rfl) (by kernel_rfl) (by kernel_rfl) (fun _ _ _ h => h) (Or.inl ⟨by rfl, ?hy5⟩) hHeld ?hn5
    case hy5 => (intro wz hSw; have j0 := cell_later hSw p0; have j1 := cell_later hSw p1; go_simp)
    try simp only [List.getElem_toArray, List.getElem_cons_zero, List.getElem_cons_succ, Act.put, List.setIfInBounds_toArray, List.set_cons_zero, List.set_cons_succ]
    refine wpAnyH_ready (rs := [7]) (by kernel_rfl) (by simp) ?_
    refine AllReadyH.cons rfl (fun K hK => ?_) AllReadyH.nil
    go_simp
    refine Calls.mono (HP.out _ (Below.then B_w2.out hHeld B_w2.out.size)) ?_; rintro e' x5 ⟨rfl, hbx⟩
    refine hK.out _ _ (Below.then hHeld hbx hHeld.size) (fun hHeld => ?_)
    clear hK K
    refine' wpAnyH_take (i := 8) (v := _) rfl (by kernel_rfl) (by kernel_rfl) (by kernel_rfl) (fun _ _ _ h => h) (Or.inl ⟨by rfl, ?hy6⟩) hHeld ?hn6
    case hy6 => (intro wz hSw; (try dsimp only at hSw); go_simp; first | done | with_reducible rfl)
    try simp only [List.getElem_toArray, List.getElem_cons_zero, List.getElem_cons_succ, Act.put, List.setIfInBounds_toArray, List.set_cons_zero, List.set_cons_succ]
    refine' wpAnyH_take (i := 9) (v := _) rfl (by kernel_rfl) (by kernel_rfl) (by kernel_rfl) (fun _ _ _ h => h) (Or.inl ⟨by rfl, ?hy7⟩) hHeld ?hn7
    case hy7 => (intro wz hSw; (try dsimp only at hSw); go_simp; first | done | with_reducible rfl)
    try simp only [List.getElem_toArray, List.getElem_cons_zero, List.getElem_cons_succ, Act.put, List.setIfInBounds_toArray, List.set_cons_zero, List.set_cons_succ]
    refine wpAnyH_done (by kernel_rfl) ?_ _
    have hb_w5 := hHeld
    have w5e : ∃ x, x = x5 := ⟨_, rfl⟩
    obtain ⟨w5, rfl⟩ := w5e
    have B_w5 : Hid (Below w1.heap.size w1 w5) := Below.then B_w2.out hb_w5 B_w2.out.size
    have G_w5 : Hid (C2 w5 w1.heap.size (.slice la ls.length lc) (.slice sa l.length sc)) := G_w2.out.same (hb_w5.block _ (World.block_lt_of_cell? _ _ G_w2.out.1.1))
    clear hb_w5
    try clear p0 p1
    obtain ⟨⟨p0, p1⟩, -⟩ := id G_w5.out
    clear hHeld
    cases pb
    · go_wp2_with fail
      refine wp_region_held (S := (fun wz => Below w5.heap.size w5 wz)) (by kernel_rfl) ?_
      change wpAnyH _ _ _ _ _ _ _ _ (World.drew _)
      have hHeld := (show Below w5.heap.size w5 (World.drew w5) from (Below.refl _ _).drew)
      refine' wpAnyH_take (i := 0) (v := (.agg #[.slice la ls.length lc, .slice sa l.length sc])) rfl (by kernel_rfl) (by kernel_rfl) (by kernel_rfl) (fun _ _ _ h => h) (Or.inl ⟨by rfl, ?hy8⟩) hHeld ?hn8
      case hy8 => (intro wz hSw; have j0 := cell_later hSw p0; have j1 := cell_later hSw p1; go_simp)
      try simp only [List.getElem_toArray, List.getElem_cons_zero, List.getElem_cons_succ, Act.put, List.setIfInBounds_toArray, List.set_cons_zero, List.set_cons_succ]
      refine' wpAnyH_take (i := 2) (v := (.agg #[.slice la ls.length lc, .slice sa l.length sc])) rfl (by kernel_rfl) (by kernel_rfl) (by kernel_rfl) (fun _ _ _ h => h) (Or.inl ⟨by rfl, ?hy9⟩) hHeld ?hn9
      case hy9 => (intro wz hSw; have j0 := cell_later hSw p0; have j1 := cell_later hSw p1; go_simp)
      try simp only [List.getElem_toArray, List.getElem_cons_zero, List.getElem_cons_succ, Act.put, List.setIfInBounds_toArray, List.set_cons_zero, List.set_cons_succ]
      refine wpAnyH_ready (rs := [1]) (by kernel_rfl) (by simp) ?_
      refine AllReadyH.cons rfl (fun K hK => ?_) AllReadyH.nil
      go_simp
      refine Calls.mono (HT.out _ (Below.then B_w5.out hHeld B_w5.out.size)) ?_; rintro e' x6 ⟨rfl, hbx⟩
      refine hK.out _ _ (Below.then hHeld hbx hHeld.size) (fun hHeld => ?_)
      clear hK K
      refine wpAnyH_ready (rs := [3]) (by kernel_rfl) (by simp) ?_
      refine AllReadyH.cons rfl (fun K hK => ?_) AllReadyH.nil
      go_simp
      refine Calls.mono (HS.out _ (Below.then B_w5.out hHeld B_w5.out.size)) ?_; rintro e' x7 ⟨rfl, hbx⟩
      refine hK.out _ _ (Below.then hHeld hbx hHeld.size) (fun hHeld => ?_)
      clear hK K
      refine' wpAnyH_take (i := 4) (v := _) rfl (by kernel_rfl) (by kernel_rfl) (by kernel_rfl) (fun _ _ _ h => h) (Or.inl ⟨by rfl, ?hy10⟩) hHeld ?hn10
      case hy10 => (intro wz hSw; (try dsimp only at hSw); go_simp; first | done | with_reducible rfl)
      try simp only [List.getElem_toArray, List.getElem_cons_zero, List.getElem_cons_succ, Act.put, List.setIfInBounds_toArray, List.set_cons_zero, List.set_cons_succ]
      refine' wpAnyH_take (i := 5) (v := _) rfl (by kernel_rfl) (by kernel_rfl) (by kernel_rfl) (fun _ _ _ h => h) (Or.inl ⟨by rfl, ?hy11⟩) hHeld ?hn11
      case hy11 => (intro wz hSw; (try dsimp only at hSw); go_simp; first | done | with_reducible rfl)
      try simp only [List.getElem_toArray, List.getElem_cons_zero, List.getElem_cons_succ, Act.put, List.setIfInBounds_toArray, List.set_cons_zero, List.set_cons_succ]
      refine wpAnyH_done (by kernel_rfl) ?_ _
      have hb_w7 := hHeld
      have w7e : ∃ x, x = x7 := ⟨_, rfl⟩
      obtain ⟨w7, rfl⟩ := w7e
      have B_w7 : Hid (Below w1.heap.size w1 w7) := Below.then B_w5.out hb_w7 B_w5.out.size
      have G_w7 : Hid (C2 w7 w1.heap.size (.slice la ls.length lc) (.slice sa l.length sc)) := G_w5.out.same (hb_w7.block _ (World.block_lt_of_cell? _ _ G_w5.out.1.1))
      clear hb_w7
      try clear p0 p1
      obtain ⟨⟨p0, p1⟩, -⟩ := id G_w7.out
      go_wp2
      go_ret
      exact ⟨rfl, HB1.out.trans (B_w7.out.mono HB1.out.size)⟩
    · have BW6 : Below w5.heap.size w5 (w5.alloc (.cells #[.slice none 0 0, .slice sa l.length sc] 26)) := (Below.refl _ _).alloc (Nat.le_refl _) _
      have GQ : Hid (C2 (w5.alloc (.cells #[.slice none 0 0, .slice sa l.length sc] 26)) w5.heap.size (.slice none 0 0) (.slice sa l.length sc)) := C2.new _ _ _ _
      have HB6 : Hid _ := BW6
      have hn8 : (ls.length : Int) ≤ 8 := by omega
      clear BW6
      try simp only [Bool.not_true, Bool.not_false]
      go_wp2
      go_loopw [5] (fun j wr => ∃ (i : Nat) (v : Value), i ≤ ls.length ∧ j = .int .i64 i ∧ C2 wr w5.heap.size v (.slice sa l.length sc) ∧ wr.ownsRow w5.heap.size 30 2 v i (pcells (List.replicate i topL)) ∧ v.ownBlock ≠ some w5.heap.size ∧ Below w5.heap.size w5 wr) (fun j _ => ls.length - (intOf j).toNat)
      case atStart => exact ⟨0, _, by omega, rfl, GQ.out, World.ownsRow_nil _ _ _ _, (by intro e; cases e), HB6.out⟩
      case round =>
        obtain ⟨i, v, hi, rfl, hC, hO, hvQ, hB⟩ := hrel
        obtain ⟨va, vc, rfl⟩ := rowt_slice hO
        have HO : Hid (wr.ownsRow w5.heap.size 30 2 (.slice va i vc) i (pcells (List.replicate i topL))) := hO
        have HC : Hid _ := hC
        have HB : Hid _ := hB
        have p0' := cell_later hB p0
        have hQl : w5.heap.size < wr.heap.size := World.block_lt_of_cell? _ _ hC.1.1
        obtain ⟨⟨c0, c1⟩, f0, f1⟩ := id hC
        have i0' : (0 : Int) ≤ (i : Int) := by omega
        have HVQ : Hid _ := hvQ
        clear hO hC hB hvQ
        by_cases hlt : i < ls.length
        · have i1' : (i : Int) < (ls.length : Int) := by omega
          go_wp2_with (at_builtin; refine wpList_append_own_at _ rfl _ _ 23 rfl w5.heap.size 30 i0 _ 2 16 Tryd.underlying23 hi0 hz0 hz1 hz2 rfl (by decide) _ _ _ rfl (show World.ownsRow _ w5.heap.size 30 2 (.slice va i vc) i (pcells (List.replicate i topL)) from HO.out.alloc _) ⟨wr.heap.size, 0, none⟩ 1 1 [.int .i64 7, .int .i64 7] rfl rfl ?c11 ?c12 ?c13 ?c14 ?c15 ?_)
          try any_goals (first | (simp [Value.oneCell']; done) | (unfold maxLen; omega) | omega | (simp; omega) | (exact cells_new2x _ _ _ _ _ rfl))
          intro v3 y3 own3 grow3 hn3 hat3
          have A2 : Below wr.heap.size wr (wr.alloc (.cells #[.int .i64 7, .int .i64 7] 30)) := (Below.refl _ _).alloc (Nat.le_refl _) _
          have zA : (wr.alloc (.cells #[.int .i64 7, .int .i64 7] 30)).heap.size = wr.heap.size + 1 := by simp
          have hv3 : v3.ownBlock ≠ some w5.heap.size := newo hat3 HVQ.out (by omega)
          have eQ : y3.heap[w5.heap.size]? = wr.heap[w5.heap.size]? := (grow3.block _ (by omega) (fun e => HVQ.out e.symm)).trans (A2.block _ hQl)
          have C3 : C2 y3 w5.heap.size (.slice va i vc) (.slice sa l.length sc) := C2.same HC.out eQ
          have B3 : Below w5.heap.size w5 y3 := below_grownT (Below.then HB.out A2 HB.out.size) grow3 (fun k e => (World.ownsRow.lt HO.out k e).1) (by omega)
          obtain ⟨va3, vc3, hv3e⟩ := rowt_slice own3
          subst hv3e
          have HF : Hid (C2 (y3.setCell ⟨w5.heap.size, 0, none⟩ (.slice va3 (i + 1) vc3)) w5.heap.size (.slice va3 (i + 1) vc3) (.slice sa l.length sc) ∧ (y3.setCell ⟨w5.heap.size, 0, none⟩ (.slice va3 (i + 1) vc3)).ownsRow w5.heap.size 30 2 (.slice va3 (i + 1) vc3) (i + 1) (pcells (List.replicate (i + 1) topL)) ∧ (Value.slice va3 (i + 1) vc3).ownBlock ≠ some w5.heap.size ∧ Below w5.heap.size w5 (y3.setCell ⟨w5.heap.size, 0, none⟩ (.slice va3 (i + 1) vc3))) :=
            ⟨C3.set0 _, rowt_frame (w := y3) (by rw [List.replicate_succ', pcells_app]; exact own3) (fun b e => Below.heap_setCell _ _ _ _ (fun e2 => hv3 (e.trans (congrArg some e2)))), hv3, B3.setCell (Nat.le_refl _) _⟩
          obtain ⟨⟨k0, k1⟩, k2, k3⟩ := C3
          clear own3 grow3 hn3 hat3 eQ A2 B3 hv3 c0 c1 f0 f1 p0'
          go_wp2
          exact ⟨⟨i + 1, _, by omega, by simp, HF.out⟩, by simp [intOf]; omega⟩
        · have hie : i = ls.length := by omega
          subst hie
          have HBF : Hid (Below w1.heap.size w1 wr) := Below.then B_w5.out HB.out B_w5.out.size
          obtain ⟨bs, hown, -⟩ := row_pown (show wr.ownsRow w5.heap.size 30 2 (.slice va ls.length vc) (List.replicate ls.length topL).length (pcells (List.replicate ls.length topL)) by rw [List.length_replicate]; exact HO.out)
          have CQ : Hid _ := typeOk_any hown.rep (HLR.out _ HBF.out).2.1 (HLR.out _ HBF.out).2.2.1 (HLR.out _ HBF.out).2.2.2
          rw [any_fine HPB.out] at CQ
          clear hown
          go_wp2_with fail
          go_at_call 27; refine Calls.mono CQ.out ?_
          rintro e w9 ⟨rfl, hb9⟩
          have HB9 : Hid (Below w1.heap.size w1 w9) := Below.then HBF.out hb9 HBF.out.size
          clear hb9 CQ c0 c1 f0 f1 p0' p0 p1
          go_wp2
          go_ret
          exact ⟨rfl, HB1.out.trans (HB9.out.mono HB1.out.size)⟩
  · refine wp_region_held (S := (fun wz => Below w2.heap.size w2 wz)) (by kernel_rfl) ?_
    change wpAnyH _ _ _ _ _ _ _ _ (World.drew _)
    have hHeld := (show Below w2.heap.size w2 (World.drew w2) from (Below.refl _ _).drew)
    refine' wpAnyH_take (i := 0) (v := (.agg #[.slice la ls.length lc, .slice sa l.length sc])) rfl (by kernel_rfl) (by kernel_rfl) (by kernel_rfl) (fun _ _ _ h => h) (Or.inl ⟨by rfl, ?hy12⟩) hHeld ?hn12
    case hy12 => (intro wz hSw; have j0 := cell_later hSw p0; have j1 := cell_later hSw p1; go_simp)
    try simp only [List.getElem_toArray, List.getElem_cons_zero, List.getElem_cons_succ, Act.put, List.setIfInBounds_toArray, List.set_cons_zero, List.set_cons_succ]
    refine' wpAnyH_take (i := 2) (v := (.agg #[.slice la ls.length lc, .slice sa l.length sc])) rfl (by kernel_rfl) (by kernel_rfl) (by kernel_rfl) (fun _ _ _ h => h) (Or.inl ⟨by rfl, ?hy13⟩) hHeld ?hn13
    case hy13 => (intro wz hSw; have j0 := cell_later hSw p0; have j1 := cell_later hSw p1; go_simp)
    try simp only [List.getElem_toArray, List.getElem_cons_zero, List.getElem_cons_succ, Act.put, List.setIfInBounds_toArray, List.set_cons_zero, List.set_cons_succ]
    refine wpAnyH_ready (rs := [1]) (by kernel_rfl) (by simp) ?_
    refine AllReadyH.cons rfl (fun K hK => ?_) AllReadyH.nil
    go_simp
    refine Calls.mono (HT.out _ (Below.then B_w2.out hHeld B_w2.out.size)) ?_; rintro e' x3 ⟨rfl, hbx⟩
    refine hK.out _ _ (Below.then hHeld hbx hHeld.size) (fun hHeld => ?_)
    clear hK K
    refine wpAnyH_ready (rs := [3]) (by kernel_rfl) (by simp) ?_
    refine AllReadyH.cons rfl (fun K hK => ?_) AllReadyH.nil
    go_simp
    refine Calls.mono (HS.out _ (Below.then B_w2.out hHeld B_w2.out.size)) ?_; rintro e' x4 ⟨rfl, hbx⟩
    refine hK.out _ _ (Below.then hHeld hbx hHeld.size) (fun hHeld => ?_)
    clear hK K
    refine' wpAnyH_take (i := 4) (v := _) rfl (by kernel_rfl) (by kernel_rfl) (by kernel_rfl) (fun _ _ _ h => h) (Or.inl ⟨by rfl, ?hy14⟩) hHeld ?hn14
    case hy14 => (intro wz hSw; (try dsimp only at hSw); go_simp; first | done | with_reducible rfl)
    try simp only [List.getElem_toArray, List.getElem_cons_zero, List.getElem_cons_succ, Act.put, List.setIfInBounds_toArray, List.set_cons_zero, List.set_cons_succ]
    refine' wpAnyH_take (i := 5) (v := _) rfl (by kernel_rfl) (by kernel_rfl) (by kernel_rfl) (fun _ _ _ h => h) (Or.inl ⟨by rfl, ?hy15⟩) hHeld ?hn15
    case hy15 => (intro wz hSw; (try dsimp only at hSw); go_simp; first | done | with_reducible rfl)
    try simp only [List.getElem_toArray, List.getElem_cons_zero, List.getElem_cons_succ, Act.put, List.setIfInBounds_toArray, List.set_cons_zero, List.set_cons_succ]
    refine' wpAnyH_take (i := 6) (v := (.agg #[.slice la ls.length lc, .slice sa l.length sc])) rfl (by kernel_rfl) (by kernel_rfl) (by kernel_rfl) (fun _ _ _ h => h) (Or.inl ⟨by rfl, ?hy16⟩) hHeld ?hn16
    case hy16 => (intro wz hSw; have j0 := cell_later hSw p0; have j1 := cell_later hSw p1; go_simp)
    try simp only [List.getElem_toArray, List.getElem_cons_zero, List.getElem_cons_succ, Act.put, List.setIfInBounds_toArray, List.set_cons_zero, List.set_cons_succ]
    refine wpAnyH_ready (rs := [7]) (by kernel_rfl) (by simp) ?_
    refine AllReadyH.cons rfl (fun K hK => ?_) AllReadyH.nil
    go_simp
    refine Calls.mono (HP.out _ (Below.then B_w2.out hHeld B_w2.out.size)) ?_; rintro e' x5 ⟨rfl, hbx⟩
    refine hK.out _ _ (Below.then hHeld hbx hHeld.size) (fun hHeld => ?_)
    clear hK K
    refine' wpAnyH_take (i := 8) (v := _) rfl (by kernel_rfl) (by kernel_rfl) (by kernel_rfl) (fun _ _ _ h => h) (Or.inl ⟨by rfl, ?hy17⟩) hHeld ?hn17
    case hy17 => (intro wz hSw; (try dsimp only at hSw); go_simp; first | done | with_reducible rfl)
    try simp only [List.getElem_toArray, List.getElem_cons_zero, List.getElem_cons_succ, Act.put, List.setIfInBounds_toArray, List.set_cons_zero, List.set_cons_succ]
    refine' wpAnyH_take (i := 9) (v := _) rfl (by kernel_rfl) (by kernel_rfl) (by kernel_rfl) (fun _ _ _ h => h) (Or.inl ⟨by rfl, ?hy18⟩) hHeld ?hn18
    case hy18 => (intro wz hSw; (try dsimp only at hSw); go_simp; first | done | with_reducible rfl)
    try simp only [List.getElem_toArray, List.getElem_cons_zero, List.getElem_cons_succ, Act.put, List.setIfInBounds_toArray, List.set_cons_zero, List.set_cons_succ]
    refine wpAnyH_done (by kernel_rfl) ?_ _
    have hb_w5 := hHeld
    have w5e : ∃ x, x = x5 := ⟨_, rfl⟩
    obtain ⟨w5, rfl⟩ := w5e
    have B_w5 : Hid (Below w1.heap.size w1 w5) := Below.then B_w2.out hb_w5 B_w2.out.size
    have G_w5 : Hid (C2 w5 w1.heap.size (.slice la ls.length lc) (.slice sa l.length sc)) := G_w2.out.same (hb_w5.block _ (World.block_lt_of_cell? _ _ G_w2.out.1.1))
    clear hb_w5
    try clear p0 p1
    obtain ⟨⟨p0, p1⟩, -⟩ := id G_w5.out
    clear hHeld
    cases pb
    · go_wp2_with fail
      refine wp_region_held (S := (fun wz => Below w5.heap.size w5 wz)) (by kernel_rfl) ?_
      change wpAnyH _ _ _ _ _ _ _ _ (World.drew _)
      have hHeld := (show Below w5.heap.size w5 (World.drew w5) from (Below.refl _ _).drew)
      refine' wpAnyH_take (i := 0) (v := (.agg #[.slice la ls.length lc, .slice sa l.length sc])) rfl (by kernel_rfl) (by kernel_rfl) (by kernel_rfl) (fun _ _ _ h => h) (Or.inl ⟨by rfl, ?hy19⟩) hHeld ?hn19
      case hy19 => (intro wz hSw; have j0 := cell_later hSw p0; have j1 := cell_later hSw p1; go_simp)
      try simp only [List.getElem_toArray, List.getElem_cons_zero, List.getElem_cons_succ, Act.put, List.setIfInBounds_toArray, List.set_cons_zero, List.set_cons_succ]
      refine' wpAnyH_take (i := 2) (v := (.agg #[.slice la ls.length lc, .slice sa l.length sc])) rfl (by kernel_rfl) (by kernel_rfl) (by kernel_rfl) (fun _ _ _ h => h) (Or.inl ⟨by rfl, ?hy20⟩) hHeld ?hn20
      case hy20 => (intro wz hSw; have j0 := cell_later hSw p0; have j1 := cell_later hSw p1; go_simp)
      try simp only [List.getElem_toArray, List.getElem_cons_zero, List.getElem_cons_succ, Act.put, List.setIfInBounds_toArray, List.set_cons_zero, List.set_cons_succ]
      refine wpAnyH_ready (rs := [1]) (by kernel_rfl) (by simp) ?_
      refine AllReadyH.cons rfl (fun K hK => ?_) AllReadyH.nil
      go_simp
      refine Calls.mono (HT.out _ (Below.then B_w5.out hHeld B_w5.out.size)) ?_; rintro e' x6 ⟨rfl, hbx⟩
      refine hK.out _ _ (Below.then hHeld hbx hHeld.size) (fun hHeld => ?_)
      clear hK K
      refine wpAnyH_ready (rs := [3]) (by kernel_rfl) (by simp) ?_
      refine AllReadyH.cons rfl (fun K hK => ?_) AllReadyH.nil
      go_simp
      refine Calls.mono (HS.out _ (Below.then B_w5.out hHeld B_w5.out.size)) ?_; rintro e' x7 ⟨rfl, hbx⟩
      refine hK.out _ _ (Below.then hHeld hbx hHeld.size) (fun hHeld => ?_)
      clear hK K
      refine' wpAnyH_take (i := 4) (v := _) rfl (by kernel_rfl) (by kernel_rfl) (by kernel_rfl) (fun _ _ _ h => h) (Or.inl ⟨by rfl, ?hy21⟩) hHeld ?hn21
      case hy21 => (intro wz hSw; (try dsimp only at hSw); go_simp; first | done | with_reducible rfl)
      try simp only [List.getElem_toArray, List.getElem_cons_zero, List.getElem_cons_succ, Act.put, List.setIfInBounds_toArray, List.set_cons_zero, List.set_cons_succ]
      refine' wpAnyH_take (i := 5) (v := _) rfl (by kernel_rfl) (by kernel_rfl) (by kernel_rfl) (fun _ _ _ h => h) (Or.inl ⟨by rfl, ?hy22⟩) hHeld ?hn22
      case hy22 => (intro wz hSw; (try dsimp only at hSw); go_simp; first | done | with_reducible rfl)
      try simp only [List.getElem_toArray, List.getElem_cons_zero, List.getElem_cons_succ, Act.put, List.setIfInBounds_toArray, List.set_cons_zero, List.set_cons_succ]
      refine wpAnyH_done (by kernel_rfl) ?_ _
      have hb_w7 := hHeld
      have w7e : ∃ x, x = x7 := ⟨_, rfl⟩
      obtain ⟨w7, rfl⟩ := w7e
      have B_w7 : Hid (Below w1.heap.size w1 w7) := Below.then B_w5.out hb_w7 B_w5.out.size
      have G_w7 : Hid (C2 w7 w1.heap.size (.slice la ls.length lc) (.slice sa l.length sc)) := G_w5.out.same (hb_w7.block _ (World.block_lt_of_cell? _ _ G_w5.out.1.1))
      clear hb_w7
      try clear p0 p1
      obtain ⟨⟨p0, p1⟩, -⟩ := id G_w7.out
      go_wp2
      go_ret
      exact ⟨rfl, HB1.out.trans (B_w7.out.mono HB1.out.size)⟩
    · have BW6 : Below w5.heap.size w5 (w5.alloc (.cells #[.slice none 0 0, .slice sa l.length sc] 26)) := (Below.refl _ _).alloc (Nat.le_refl _) _
      have GQ : Hid (C2 (w5.alloc (.cells #[.slice none 0 0, .slice sa l.length sc] 26)) w5.heap.size (.slice none 0 0) (.slice sa l.length sc)) := C2.new _ _ _ _
      have HB6 : Hid _ := BW6
      have hn8 : (ls.length : Int) ≤ 8 := by omega
      clear BW6
      try simp only [Bool.not_true, Bool.not_false]
      go_wp2
      go_loopw [5] (fun j wr => ∃ (i : Nat) (v : Value), i ≤ ls.length ∧ j = .int .i64 i ∧ C2 wr w5.heap.size v (.slice sa l.length sc) ∧ wr.ownsRow w5.heap.size 30 2 v i (pcells (List.replicate i topL)) ∧ v.ownBlock ≠ some w5.heap.size ∧ Below w5.heap.size w5 wr) (fun j _ => ls.length - (intOf j).toNat)
      case atStart => exact ⟨0, _, by omega, rfl, GQ.out, World.ownsRow_nil _ _ _ _, (by intro e; cases e), HB6.out⟩
      case round =>
        obtain ⟨i, v, hi, rfl, hC, hO, hvQ, hB⟩ := hrel
        obtain ⟨va, vc, rfl⟩ := rowt_slice hO
        have HO : Hid (wr.ownsRow w5.heap.size 30 2 (.slice va i vc) i (pcells (List.replicate i topL))) := hO
        have HC : Hid _ := hC
        have HB : Hid _ := hB
        have p0' := cell_later hB p0
        have hQl : w5.heap.size < wr.heap.size := World.block_lt_of_cell? _ _ hC.1.1
        obtain ⟨⟨c0, c1⟩, f0, f1⟩ := id hC
        have i0' : (0 : Int) ≤ (i : Int) := by omega
        have HVQ : Hid _ := hvQ
        clear hO hC hB hvQ
        by_cases hlt : i < ls.length
        · have i1' : (i : Int) < (ls.length : Int) := by omega
          go_wp2_with (at_builtin; refine wpList_append_own_at _ rfl _ _ 23 rfl w5.heap.size 30 i0 _ 2 16 Tryd.underlying23 hi0 hz0 hz1 hz2 rfl (by decide) _ _ _ rfl (show World.ownsRow _ w5.heap.size 30 2 (.slice va i vc) i (pcells (List.replicate i topL)) from HO.out.alloc _) ⟨wr.heap.size, 0, none⟩ 1 1 [.int .i64 7, .int .i64 7] rfl rfl ?c21 ?c22 ?c23 ?c24 ?c25 ?_)
          try any_goals (first | (simp [Value.oneCell']; done) | (unfold maxLen; omega) | omega | (simp; omega) | (exact cells_new2x _ _ _ _ _ rfl))
          intro v3 y3 own3 grow3 hn3 hat3
          have A2 : Below wr.heap.size wr (wr.alloc (.cells #[.int .i64 7, .int .i64 7] 30)) := (Below.refl _ _).alloc (Nat.le_refl _) _
          have zA : (wr.alloc (.cells #[.int .i64 7, .int .i64 7] 30)).heap.size = wr.heap.size + 1 := by simp
          have hv3 : v3.ownBlock ≠ some w5.heap.size := newo hat3 HVQ.out (by omega)
          have eQ : y3.heap[w5.heap.size]? = wr.heap[w5.heap.size]? := (grow3.block _ (by omega) (fun e => HVQ.out e.symm)).trans (A2.block _ hQl)
          have C3 : C2 y3 w5.heap.size (.slice va i vc) (.slice sa l.length sc) := C2.same HC.out eQ
          have B3 : Below w5.heap.size w5 y3 := below_grownT (Below.then HB.out A2 HB.out.size) grow3 (fun k e => (World.ownsRow.lt HO.out k e).1) (by omega)
          obtain ⟨va3, vc3, hv3e⟩ := rowt_slice own3
          subst hv3e
          have HF : Hid (C2 (y3.setCell ⟨w5.heap.size, 0, none⟩ (.slice va3 (i + 1) vc3)) w5.heap.size (.slice va3 (i + 1) vc3) (.slice sa l.length sc) ∧ (y3.setCell ⟨w5.heap.size, 0, none⟩ (.slice va3 (i + 1) vc3)).ownsRow w5.heap.size 30 2 (.slice va3 (i + 1) vc3) (i + 1) (pcells (List.replicate (i + 1) topL)) ∧ (Value.slice va3 (i + 1) vc3).ownBlock ≠ some w5.heap.size ∧ Below w5.heap.size w5 (y3.setCell ⟨w5.heap.size, 0, none⟩ (.slice va3 (i + 1) vc3))) :=
            ⟨C3.set0 _, rowt_frame (w := y3) (by rw [List.replicate_succ', pcells_app]; exact own3) (fun b e => Below.heap_setCell _ _ _ _ (fun e2 => hv3 (e.trans (congrArg some e2)))), hv3, B3.setCell (Nat.le_refl _) _⟩
          obtain ⟨⟨k0, k1⟩, k2, k3⟩ := C3
          clear own3 grow3 hn3 hat3 eQ A2 B3 hv3 c0 c1 f0 f1 p0'
          go_wp2
          exact ⟨⟨i + 1, _, by omega, by simp, HF.out⟩, by simp [intOf]; omega⟩
        · have hie : i = ls.length := by omega
          subst hie
          have HBF : Hid (Below w1.heap.size w1 wr) := Below.then B_w5.out HB.out B_w5.out.size
          obtain ⟨bs, hown, -⟩ := row_pown (show wr.ownsRow w5.heap.size 30 2 (.slice va ls.length vc) (List.replicate ls.length topL).length (pcells (List.replicate ls.length topL)) by rw [List.length_replicate]; exact HO.out)
          have CQ : Hid _ := typeOk_any hown.rep (HLR.out _ HBF.out).2.1 (HLR.out _ HBF.out).2.2.1 (HLR.out _ HBF.out).2.2.2
          rw [any_fine HPB.out] at CQ
          clear hown
          go_wp2_with fail
          go_at_call 27; refine Calls.mono CQ.out ?_
          rintro e w9 ⟨rfl, hb9⟩
          have HB9 : Hid (Below w1.heap.size w1 w9) := Below.then HBF.out hb9 HBF.out.size
          clear hb9 CQ c0 c1 f0 f1 p0' p0 p1
          go_wp2
          go_ret
          exact ⟨rfl, HB1.out.trans (HB9.out.mono HB1.out.size)⟩
end Go.Proofs.YtpmhkhajahoaaaaDoor
