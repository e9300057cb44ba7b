/- Programs and rows that are drawn; programs that are held against one another. -/
import Derived.Test.YtkgblkbgebpejaaGreatDoorVtTwl
import Derived.Test.YtkgblkbgebpejaaGreatDoorVtAnx
import Derived.Test.YtkgblkbgebpejaaGreatDoorVtLcs
import Derived.Deep.DeepCutAuto
namespace Go.Proofs.YtkgblkbgebpejaaGreatDoor
open Go.RowKit
set_option linter.unusedSimpArgs false
set_option linter.unusedVariables false
attribute [local go_sem] World.cell?_alloc_some

theorem isRow_onT {k : IntKind} {w w' : World} {a : Option Addr} {len cap : Nat} {zs : List Int} (h : IsRow k w a len cap zs) (hb : Below w.heap.size w w') : IsRow k w' a len cap zs := by
  rcases h with h | ⟨x, h0, h1, h2, h3, h4, h5⟩
  · exact .inl h
  · exact .inr ⟨x, h0, h1, h2, h3, fun i hi => cell_later hb (h4 i hi), h5⟩
/-- What is drawn: a program, and a row. -/
def DtPost (w : World) (e : Ending) (w' : World) : Prop := ∃ (la sa : Option Addr) (lc sc : Nat) (ls : List (Int × Int)) (d : Nat) (l : List (Pay × Tr d × Tr d)) (zs : List Int) (g nc : Nat), e = .returned (.tuple #[.agg #[.slice la ls.length lc, .slice sa (ln (d + 1) (l : List (Pay × Tr d × Tr d))) sc], .slice (some ⟨g, 0, none⟩) zs.length nc]) ∧ LRep w' (.slice la ls.length lc) ls ∧ Rep w' (d + 1) (.slice sa (ln (d + 1) (l : List (Pay × Tr d × Tr d))) sc) (l : List (Pay × Tr d × Tr d)) ∧ GRep (Value.int .i64) w' (.slice (some ⟨g, 0, none⟩) zs.length nc) zs ∧ Below w.heap.size w w' ∧ (1 ≤ ls.length ∧ ls.length ≤ 8) ∧ cnt (d + 1) (l : List (Pay × Tr d × Tr d)) ≤ 400 ∧ zs.length ≤ 9

set_option maxHeartbeats 4000000 in
set_option maxRecDepth 20000 in
theorem drawTurnProg_any (w : World) (a0 : Option Addr) (len0 cap0 : Nat) (zs0 : List Int) (h : IsRow .u8 w a0 len0 cap0 zs0) : Calls Tryz.prog 12 #[.slice a0 len0 cap0] w (DtPost w) := by
  have A0 : Below w.heap.size w (w.alloc (.cells #[.slice none 0 0, .slice none 0 0] 26)) := (Below.refl _ _).alloc (Nat.le_refl _) _
  have C1 : Hid _ := l6Open_any _ a0 len0 cap0 zs0 (isRow_onT h A0)
  have Z0 := C2.new w (.slice none 0 0) (.slice none 0 0) 26
  have s0 : (w.alloc (.cells #[.slice none 0 0, .slice none 0 0] 26)).heap.size = w.heap.size + 1 := by simp
  have HZ0 : Hid (C2 (w.alloc (.cells #[.slice none 0 0, .slice none 0 0] 26)) w.heap.size (.slice none 0 0) (.slice none 0 0)) := Z0
  have HA0 : Hid (Below w.heap.size w (w.alloc (.cells #[.slice none 0 0, .slice none 0 0] 26))) := A0
  clear A0 Z0 h
  go_enter Tryz.func12, Tryz.ntmps12
  go_wp2_with fail
  go_at_call 19; refine Calls.mono C1.out ?_
  rintro e w1 ⟨rfl, rd1, sz1, hb1⟩
  have B1 : Below w.heap.size w w1 := Below.then HA0.out hb1 (by omega)
  have Z1 : C2 w1 w.heap.size (.slice none 0 0) (.slice none 0 0) := HZ0.out.same (hb1.block _ (by omega))
  rw [s0] at rd1 sz1 ⊢
  have P1 : Hid _ := l71Any_any w1 (w.heap.size + 1) 0 ⟨0, by omega, rd1⟩ (by omega)
  have HB1 : Hid (Below w.heap.size w w1) := B1
  have HZ1 : Hid (C2 w1 w.heap.size (.slice none 0 0) (.slice none 0 0)) := Z1
  clear hb1 B1 Z1 HZ0 HA0 C1 rd1
  go_wp2_with fail
  go_at_call 22; refine Calls.mono P1.out ?_
  rintro e w2 ⟨lv, sv, ls, d, l, rfl, hL, hR, ll, cn, rd2, ot2⟩
  have P2 : Hid _ := l71Row_any w2 (w.heap.size + 1) _ 3 rd2 (by omega) (by omega) (by omega)
  have Z2 : C2 w2 w.heap.size (.slice none 0 0) (.slice none 0 0) := HZ1.out.oth ot2 (by omega)
  have HZ2 : Hid (C2 w2 w.heap.size (.slice none 0 0) (.slice none 0 0)) := Z2
  have HB2 : Hid (Below w.heap.size w w2) := HB1.out.trans (ot2.below (by omega) (by omega))
  have HLR : Hid (LRepP (fun b => w1.heap.size ≤ b) w2 lv ls ∧ RepP (fun b => w1.heap.size ≤ b) w2 (d + 1) sv (l : List (Pay × Tr d × Tr d))) := ⟨hL, hR⟩
  obtain ⟨la, lc, rfl, -⟩ := hL.rep
  obtain ⟨sa, sc, rfl⟩ := hR.slice
  have zz2 : w1.heap.size ≤ w2.heap.size := ot2.size
  clear Z2 hL hR rd2 ot2 HZ1 HB1 P1
  go_wp2_with fail
  (try go_at_call 33); refine Calls.mono P2.out ?_
  rintro e w3 ⟨zs, g, nc, rfl, rd3, ot3, own3, zl⟩
  have Z3 : C2 w3 w.heap.size (.slice none 0 0) (.slice none 0 0) := HZ2.out.oth ot3 (by omega)
  have HB3 : Hid (Below w.heap.size w w3) := HB2.out.trans (ot3.below (by omega) (by have := HB2.out.size; omega))
  have hset : ∀ b, b ≠ w.heap.size → ((w3.setCell ⟨w.heap.size, 0, none⟩ (.slice la ls.length lc)).setCell ⟨w.heap.size, 1, none⟩ (.slice sa (ln (d + 1) (l : List (Pay × Tr d × Tr d))) sc)).heap[b]? = w3.heap[b]? := fun b hb => (Below.heap_setCell _ _ _ _ hb).trans (Below.heap_setCell _ _ _ _ hb)
  have FL := HLR.out.1.frame (P' := fun b => w.heap.size ≤ b) (w' := ((w3.setCell ⟨w.heap.size, 0, none⟩ (.slice la ls.length lc)).setCell ⟨w.heap.size, 1, none⟩ (.slice sa (ln (d + 1) (l : List (Pay × Tr d × Tr d))) sc))) (fun b p hl => ⟨(hset b (by omega)).trans (ot3.block b hl (by omega)), by omega⟩)
  have FR := HLR.out.2.frame (P' := fun b => w.heap.size ≤ b) (w' := ((w3.setCell ⟨w.heap.size, 0, none⟩ (.slice la ls.length lc)).setCell ⟨w.heap.size, 1, none⟩ (.slice sa (ln (d + 1) (l : List (Pay × Tr d × Tr d))) sc))) (fun b p hl => ⟨(hset b (by omega)).trans (ot3.block b hl (by omega)), by omega⟩)
  have own2 := rowp_frame (w' := ((w3.setCell ⟨w.heap.size, 0, none⟩ (.slice la ls.length lc)).setCell ⟨w.heap.size, 1, none⟩ (.slice sa (ln (d + 1) (l : List (Pay × Tr d × Tr d))) sc))) own3 (fun k hk => hset k (by have := (World.ownsRow.lt own3 k hk).1; omega))
  have FB : Below w.heap.size w ((w3.setCell ⟨w.heap.size, 0, none⟩ (.slice la ls.length lc)).setCell ⟨w.heap.size, 1, none⟩ (.slice sa (ln (d + 1) (l : List (Pay × Tr d × Tr d))) sc)) := (HB3.out.setCell (Nat.le_refl _) _).setCell (Nat.le_refl _) _
  have GG : Hid _ := (C2.set0 (.slice la ls.length lc) Z3).set1 (.slice sa (ln (d + 1) (l : List (Pay × Tr d × Tr d))) sc)
  have HF : Hid (LRep ((w3.setCell ⟨w.heap.size, 0, none⟩ (.slice la ls.length lc)).setCell ⟨w.heap.size, 1, none⟩ (.slice sa (ln (d + 1) (l : List (Pay × Tr d × Tr d))) sc)) (.slice la ls.length lc) ls ∧ Rep ((w3.setCell ⟨w.heap.size, 0, none⟩ (.slice la ls.length lc)).setCell ⟨w.heap.size, 1, none⟩ (.slice sa (ln (d + 1) (l : List (Pay × Tr d × Tr d))) sc)) (d + 1) (.slice sa (ln (d + 1) (l : List (Pay × Tr d × Tr d))) sc) (l : List (Pay × Tr d × Tr d)) ∧ GRep (Value.int .i64) ((w3.setCell ⟨w.heap.size, 0, none⟩ (.slice la ls.length lc)).setCell ⟨w.heap.size, 1, none⟩ (.slice sa (ln (d + 1) (l : List (Pay × Tr d × Tr d))) sc)) (.slice (some ⟨g, 0, none⟩) zs.length nc) zs ∧ Below w.heap.size w ((w3.setCell ⟨w.heap.size, 0, none⟩ (.slice la ls.length lc)).setCell ⟨w.heap.size, 1, none⟩ (.slice sa (ln (d + 1) (l : List (Pay × Tr d × Tr d))) sc))) := ⟨FL.rep, FR.rep, row_rep1 own2, FB⟩
  obtain ⟨⟨z0, z1⟩, u0, u1⟩ := Z3
  clear ot3 rd3 hset P2 HZ2 HB2 HLR own3 own2 FL FR FB
  go_wp2
  obtain ⟨⟨q0, q1⟩, -⟩ := GG.out
  exact bodyPost_ret (v := .tuple #[.agg #[.slice la ls.length lc, .slice sa (ln (d + 1) (l : List (Pay × Tr d × Tr d))) sc], .slice (some ⟨g, 0, none⟩) zs.length nc]) (by simp [results, Tryz.results12, go_sem, q0, q1]) rfl ⟨la, sa, lc, sc, ls, d, l, zs, g, nc, rfl, HF.out.1, HF.out.2.1, HF.out.2.2.1, HF.out.2.2.2, ll, cn, zl⟩

set_option maxHeartbeats 4000000 in
set_option maxRecDepth 20000 in
theorem lcProg_same {d : Nat} {T : Tr d} {v0 s0 v1 s1 : Value} {ls : List (Int × Int)} {w : World} (hL : LRep w v0 ls) (hR : Rep w d s0 T) (hL' : LRep w v1 ls) (hR' : Rep w d s1 T) :
    Calls Tryz.prog 15 #[.agg #[v0, s0], .agg #[v1, s1]] w fun e w' => e = .returned (.bool true) ∧ Below w.heap.size w w' := by
  have A : Below w.heap.size w ((w.alloc (.cells #[v0, s0] 26)).alloc (.cells #[v1, s1] 26)) := ((Below.refl _ _).alloc (Nat.le_refl _) _).alloc (by simp) _
  have CS : Hid (∀ wx, Below w.heap.size w wx → Calls Tryz.prog 43 #[s0, s1] wx fun e w' => e = .returned (.bool true) ∧ Below wx.heap.size wx w') := (show ∀ wx, _ from fun wx hb => lcSteps_same d T _ _ _ (hR.below hb) (hR'.below hb))
  obtain ⟨la, lc, rfl, hlc, hlm, hcell⟩ := hL
  obtain ⟨la', lc', rfl, hlc', hlm', hcell'⟩ := hL'
  obtain ⟨sa, sc, rfl⟩ := hR.slice
  obtain ⟨sa', sc', rfl⟩ := hR'.slice
  have HC : Hid _ := hcell
  have HC' : Hid _ := hcell'
  have hlz : (ls.length : Int) ≤ 9223372036854775807 := by unfold maxLen at hlm; omega
  have G1 := (C2.new w (.slice la ls.length lc) (.slice sa (ln d T) sc) 26).same (Below.heap_alloc _ (.cells #[.slice la' ls.length lc', .slice sa' (ln d T) sc'] 26) _ (by simp))
  have G2 := C2.new (w.alloc (.cells #[.slice la ls.length lc, .slice sa (ln d T) sc] 26)) (.slice la' ls.length lc') (.slice sa' (ln d T) sc') 26
  rw [show (w.alloc (.cells #[.slice la ls.length lc, .slice sa (ln d T) sc] 26)).heap.size = w.heap.size + 1 by simp] at G2
  obtain ⟨W, hW⟩ : ∃ W, (w.alloc (.cells #[.slice la ls.length lc, .slice sa (ln d T) sc] 26)).alloc (.cells #[.slice la' ls.length lc', .slice sa' (ln d T) sc'] 26) = W := ⟨_, rfl⟩
  rw [hW] at A G1 G2
  have HW : Hid _ := hW
  have HA : Hid (Below w.heap.size w W) := A
  have HG1 : Hid (C2 W w.heap.size (.slice la ls.length lc) (.slice sa (ln d T) sc)) := G1
  have HG2 : Hid (C2 W (w.heap.size + 1) (.slice la' ls.length lc') (.slice sa' (ln d T) sc')) := G2
  clear hR hR' hcell hcell' A hW
  obtain ⟨⟨p0, p1⟩, -⟩ := G1
  obtain ⟨⟨q0, q1⟩, -⟩ := G2
  go_enter Tryz.func15, Tryz.ntmps15
  go_upto_region 1 with fail
  rw [HW.out]
  clear HW
  go_wp2_with fail
  go_loopw [5] (fun j wr => ∃ (i : Nat), i ≤ ls.length ∧ j = .int .i64 i ∧ Below W.heap.size W wr) (fun j _ => ls.length - (intOf j).toNat)
  case atStart => exact ⟨0, by omega, rfl, Below.refl _ _⟩
  case round =>
    obtain ⟨i, hi, rfl, hbr⟩ := hrel
    have HBR : Hid (Below W.heap.size W wr) := hbr
    have x0 := cell_later hbr p0
    have x1 := cell_later hbr p1
    have y0 := cell_later hbr q0
    have y1 := cell_later hbr q1
    by_cases hlt : i < ls.length
    · obtain ⟨b, off, rfl, k0, k1⟩ := HC.out i hlt
      obtain ⟨b', off', rfl, t0, t1⟩ := HC'.out i hlt
      have i0' : (0 : Int) ≤ (i : Int) := by omega
      have i1' : (i : Int) < (ls.length : Int) := by omega
      replace k0 := cell_later HA.out k0
      replace k1 := cell_later HA.out k1
      replace t0 := cell_later HA.out t0
      replace t1 := cell_later HA.out t1
      generalize ls[i].1 = k at *
      generalize ls[i].2 = t at *
      go_upto_region 6 with fail
      refine wp_region_held (S := (fun wz : World => Below W.heap.size W wz)) (by kernel_rfl) ?_
      change wpAnyH _ _ _ _ _ _ _ _ (World.drew _)
      have hHeld := (show (fun wz : World => Below W.heap.size W wz) (World.drew wr) from hbr.drew)
      clear x0 x1 y0 y1 hbr
      refine' wpAnyH_take (i := 0) (v := _) rfl (by kernel_rfl) (by kernel_rfl) (by kernel_rfl) (fun _ _ _ h => h) (Or.inl ⟨by rfl, ?hy3007⟩) hHeld ?hn3007
      case hy3007 => (intro wz hSw; go_simp; first | done | with_reducible rfl)
      try simp only [nrm, Act.put]
      refine' wpAnyH_take (i := 1) (v := (.slice (some ⟨b, off, none⟩) ls.length lc)) rfl (by kernel_rfl) (by kernel_rfl) (by kernel_rfl) (fun _ _ _ h => h) (Or.inl ⟨by rfl, ?hy3008⟩) hHeld ?hn3008
      case hy3008 => (intro wz hSw; have j0 := cell_later hSw p0; go_simp)
      try simp only [nrm, Act.put]
      refine' wpAnyH_take (i := 2) (v := _) rfl (by kernel_rfl) (by kernel_rfl) (by kernel_rfl) (fun _ _ _ h => h) (Or.inl ⟨by rfl, ?hy3009⟩) hHeld ?hn3009
      case hy3009 => (intro wz hSw; go_simp; first | done | with_reducible rfl)
      try simp only [nrm, Act.put]
      refine' wpAnyH_take (i := 3) (v := _) rfl (by kernel_rfl) (by kernel_rfl) (by kernel_rfl) (fun _ _ _ h => h) (Or.inl ⟨by rfl, ?hy3010⟩) hHeld ?hn3010
      case hy3010 => (intro wz hSw; go_simp; first | done | with_reducible rfl)
      try simp only [nrm, Act.put]
      refine' wpAnyH_take (i := 4) (v := (.agg #[.int .i64 k, .int .i64 t])) rfl (by kernel_rfl) (by kernel_rfl) (by kernel_rfl) (fun _ _ _ h => h) (Or.inl ⟨by rfl, ?hy3011⟩) hHeld ?hn3011
      case hy3011 => (intro wz hSw; have j0 := cell_later hSw k0; have j1 := cell_later hSw k1; go_simp)
      try simp only [nrm, Act.put]
      refine' wpAnyH_take (i := 5) (v := _) rfl (by kernel_rfl) (by kernel_rfl) (by kernel_rfl) (fun _ _ _ h => h) (Or.inl ⟨by rfl, ?hy3012⟩) hHeld ?hn3012
      case hy3012 => (intro wz hSw; go_simp; first | done | with_reducible rfl)
      try simp only [nrm, Act.put]
      refine' wpAnyH_take (i := 6) (v := (.slice (some ⟨b', off', none⟩) ls.length lc')) rfl (by kernel_rfl) (by kernel_rfl) (by kernel_rfl) (fun _ _ _ h => h) (Or.inl ⟨by rfl, ?hy3013⟩) hHeld ?hn3013
      case hy3013 => (intro wz hSw; have j0 := cell_later hSw q0; go_simp)
      try simp only [nrm, Act.put]
      refine' wpAnyH_take (i := 7) (v := _) rfl (by kernel_rfl) (by kernel_rfl) (by kernel_rfl) (fun _ _ _ h => h) (Or.inl ⟨by rfl, ?hy3014⟩) hHeld ?hn3014
      case hy3014 => (intro wz hSw; go_simp; first | done | with_reducible rfl)
      try simp only [nrm, Act.put]
      refine' wpAnyH_take (i := 8) (v := _) rfl (by kernel_rfl) (by kernel_rfl) (by kernel_rfl) (fun _ _ _ h => h) (Or.inl ⟨by rfl, ?hy3015⟩) hHeld ?hn3015
      case hy3015 => (intro wz hSw; go_simp; first | done | with_reducible rfl)
      try simp only [nrm, Act.put]
      refine' wpAnyH_take (i := 9) (v := (.agg #[.int .i64 k, .int .i64 t])) rfl (by kernel_rfl) (by kernel_rfl) (by kernel_rfl) (fun _ _ _ h => h) (Or.inl ⟨by rfl, ?hy3016⟩) hHeld ?hn3016
      case hy3016 => (intro wz hSw; have j0 := cell_later hSw t0; have j1 := cell_later hSw t1; go_simp)
      try simp only [nrm, Act.put]
      refine' wpAnyH_take (i := 10) (v := _) rfl (by kernel_rfl) (by kernel_rfl) (by kernel_rfl) (fun _ _ _ h => h) (Or.inl ⟨by rfl, ?hy3017⟩) hHeld ?hn3017
      case hy3017 => (intro wz hSw; go_simp; first | done | with_reducible rfl)
      try simp only [nrm, Act.put]
      refine wpAnyH_done (by kernel_rfl) ?_ _
      have HB6 : Hid (Below W.heap.size W _) := hHeld
      clear hHeld
      go_wp2
      exact ⟨⟨i + 1, by omega, by simp, HB6.out⟩, by simp [intOf]; omega⟩
    · have hie : i = ls.length := by omega
      subst hie
      have CS' : Hid _ := CS.out _ (Below.then HA.out hbr HA.out.size)
      clear hbr
      go_wp2_with fail
      (try go_at_call 43); refine Calls.mono CS'.out ?_
      rintro e wq ⟨rfl, hbq⟩
      have HBQ : Hid (Below w.heap.size w wq) := Below.then (Below.then HA.out HBR.out HA.out.size) hbq (Below.then HA.out HBR.out HA.out.size).size
      clear hbq x0 x1 y0 y1
      go_wp2
      go_ret
      exact ⟨rfl, HBQ.out⟩

end Go.Proofs.YtkgblkbgebpejaaGreatDoor
