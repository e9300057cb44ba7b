/- Programs and rows that are drawn; programs that are held against one another. -/
import Derived.Test.YtfmhdjnambnglaaVsTwl
import Derived.Test.YtfmhdjnambnglaaVsAnx
import Derived.Test.YtfmhdjnambnglaaVsLcs
import Derived.Deep.DeepCutAuto
namespace Go.Proofs.Ytfmhdjnambnglaa
open Go.RowKit
set_option linter.unusedSimpArgs false
set_option linter.unusedVariables false
attribute [local go_sem] World.cell?_alloc_some

theorem isRow_onT {k : IntKind} {w w' : World} {a : Option Addr} {len cap : Nat} {zs : List Int} (h : IsRow k w a len cap zs) (hb : Below w.heap.size w w') : IsRow k w' a len cap zs := by
  rcases h with h | ⟨x, h0, h1, h2, h3, h4, h5⟩
  · exact .inl h
  · exact .inr ⟨x, h0, h1, h2, h3, fun i hi => cell_later hb (h4 i hi), h5⟩
/-- What is drawn: a program, and a row. -/
def DtPost (w : World) (e : Ending) (w' : World) : Prop := ∃ (la sa : Option Addr) (lc sc : Nat) (ls : List (Int × Int)) (d : Nat) (l : List (Pay × Tr d × Tr d)) (zs : List Int) (g nc : Nat), e = .returned (.tuple #[.agg #[.slice la ls.length lc, .slice sa (ln (d + 1) (l : List (Pay × Tr d × Tr d))) sc], .slice (some ⟨g, 0, none⟩) zs.length nc]) ∧ LRep w' (.slice la ls.length lc) ls ∧ Rep w' (d + 1) (.slice sa (ln (d + 1) (l : List (Pay × Tr d × Tr d))) sc) (l : List (Pay × Tr d × Tr d)) ∧ GRep (Value.int .i64) w' (.slice (some ⟨g, 0, none⟩) zs.length nc) zs ∧ Below w.heap.size w w' ∧ (1 ≤ ls.length ∧ ls.length ≤ 8) ∧ cnt (d + 1) (l : List (Pay × Tr d × Tr d)) ≤ 400 ∧ zs.length ≤ 9

set_option maxHeartbeats 4000000 in
set_option maxRecDepth 20000 in
theorem drawTurnVars_any (w : World) (a0 : Option Addr) (len0 cap0 : Nat) (zs0 : List Int) (h : IsRow .u8 w a0 len0 cap0 zs0) : Calls Try.prog 35 #[.slice a0 len0 cap0] w (DtPost w) := by
  have A0 : Below w.heap.size w (w.alloc (.cells #[.slice none 0 0, .slice none 0 0] 43)) := (Below.refl _ _).alloc (Nat.le_refl _) _
  have C1 : Hid _ := l6Open_any _ a0 len0 cap0 zs0 (isRow_onT h A0)
  have Z0 := C2.new w (.slice none 0 0) (.slice none 0 0) 43
  have s0 : (w.alloc (.cells #[.slice none 0 0, .slice none 0 0] 43)).heap.size = w.heap.size + 1 := by simp
  have HZ0 : Hid (C2 (w.alloc (.cells #[.slice none 0 0, .slice none 0 0] 43)) w.heap.size (.slice none 0 0) (.slice none 0 0)) := Z0
  have HA0 : Hid (Below w.heap.size w (w.alloc (.cells #[.slice none 0 0, .slice none 0 0] 43))) := A0
  clear A0 Z0 h
  go_enter Try.func35, Try.ntmps35
  go_wp2_with fail
  go_at_call 47; refine Calls.mono C1.out ?_
  rintro e w1 ⟨rfl, rd1, sz1, hb1⟩
  have B1 : Below w.heap.size w w1 := Below.then HA0.out hb1 (by omega)
  have Z1 : C2 w1 w.heap.size (.slice none 0 0) (.slice none 0 0) := HZ0.out.same (hb1.block _ (by omega))
  rw [s0] at rd1 sz1 ⊢
  have P1 : Hid _ := l71Any_any w1 (w.heap.size + 1) 0 ⟨0, by omega, rd1⟩ (by omega)
  have HB1 : Hid (Below w.heap.size w w1) := B1
  have HZ1 : Hid (C2 w1 w.heap.size (.slice none 0 0) (.slice none 0 0)) := Z1
  clear hb1 B1 Z1 HZ0 HA0 C1 rd1
  go_wp2_with fail
  go_at_call 65; refine Calls.mono P1.out ?_
  rintro e w2 ⟨lv, sv, ls, d, l, rfl, hL, hR, ll, cn, rd2, ot2⟩
  obtain ⟨la, lc, rfl, -⟩ := hL.rep
  obtain ⟨sa, sc, rfl⟩ := hR.slice
  have z2 : w1.heap.size ≤ w2.heap.size := ot2.size
  have A2 : Below w2.heap.size w2 (w2.alloc (.cells #[.slice la ls.length lc, .slice sa (ln (d + 1) (l : List (Pay × Tr d × Tr d))) sc] 43)) := (Below.refl _ _).alloc (Nat.le_refl _) _
  have G2 := C2.new w2 (.slice la ls.length lc) (.slice sa (ln (d + 1) (l : List (Pay × Tr d × Tr d))) sc) 43
  obtain ⟨y0, hy0⟩ : ∃ y, y = w2.alloc (.cells #[.slice la ls.length lc, .slice sa (ln (d + 1) (l : List (Pay × Tr d × Tr d))) sc] 43) := ⟨_, rfl⟩
  have HY : Hid _ := hy0
  rw [← hy0] at A2 G2
  obtain ⟨pb, hpb⟩ : ∃ n, n = w2.heap.size := ⟨_, rfl⟩
  have HPB : Hid _ := hpb
  rw [← hpb] at G2
  have hpw : w.heap.size + 1 < pb := by omega
  have hw1p : w1.heap.size ≤ pb := by omega
  have hpy : pb < y0.heap.size := World.block_lt_of_cell? _ _ G2.1.1
  have HZ2 : Hid (C2 y0 w.heap.size (.slice none 0 0) (.slice none 0 0)) := (HZ1.out.oth ot2 (by omega)).same (A2.block _ (by omega))
  have HB0 : Hid (Below w.heap.size w y0) := (HB1.out.trans (ot2.below (by omega) (by omega))).trans (A2.mono (by omega))
  have HLR : Hid (LRepP (fun b => w1.heap.size ≤ b) y0 (.slice la ls.length lc) ls ∧ RepP (fun b => w1.heap.size ≤ b) y0 (d + 1) (.slice sa (ln (d + 1) (l : List (Pay × Tr d × Tr d))) sc) (l : List (Pay × Tr d × Tr d))) := ⟨hL.frame (fun b p hl => ⟨A2.block b hl, p⟩), hR.frame (fun b p hl => ⟨A2.block b hl, p⟩)⟩
  have CN : Hid _ := l71Row_any y0.drew (w.heap.size + 1) 80006 ls.length ((rd2.oth A2).same (fun _ _ => rfl)) (by omega) ll.1 ll.2
  obtain ⟨⟨b0, b1⟩, -⟩ := G2
  clear hL hR rd2 ot2 A2 HZ1 HB1 P1 hy0 hpb
  go_wp2_with fail
  rw [← HY.out, ← HPB.out]
  clear HY HPB
  refine wp_region_held (S := (fun wz => wz.cell? ⟨pb, 0, none⟩ = some (.slice la ls.length lc) ∧ wz.cell? ⟨pb, 1, none⟩ = some (.slice sa (ln (d + 1) (l : List (Pay × Tr d × Tr d))) sc))) (by kernel_rfl) ?_
  change wpAnyH _ _ _ _ _ _ _ _ (World.drew _)
  have hHeld : (fun wz => wz.cell? ⟨pb, 0, none⟩ = some (.slice la ls.length lc) ∧ wz.cell? ⟨pb, 1, none⟩ = some (.slice sa (ln (d + 1) (l : List (Pay × Tr d × Tr d))) sc)) (World.drew y0) := ⟨b0, b1⟩
  refine' wpAnyH_take (i := 0) (v := (.agg #[.slice la ls.length lc, .slice sa (ln (d + 1) (l : List (Pay × Tr d × Tr d))) sc])) rfl (by kernel_rfl) (by kernel_rfl) (by kernel_rfl) (fun _ _ _ h => h) (Or.inl ⟨by rfl, ?hy3001⟩) hHeld ?hn3001
  case hy3001 => (intro wz hSw; obtain ⟨j0, j1⟩ := hSw; go_simp)
  try simp only [nrm, Act.put]
  refine' wpAnyH_take (i := 1) (v := _) rfl (by kernel_rfl) (by kernel_rfl) (by kernel_rfl) (fun _ _ _ h => h) (Or.inl ⟨by rfl, ?hy3002⟩) hHeld ?hn3002
  case hy3002 => (intro wz hSw; go_simp; first | done | with_reducible rfl)
  try simp only [nrm, Act.put]
  refine' wpAnyH_take (i := 2) (v := _) rfl (by kernel_rfl) (by kernel_rfl) (by kernel_rfl) (fun _ _ _ h => h) (Or.inl ⟨by rfl, ?hy3003⟩) hHeld ?hn3003
  case hy3003 => (intro wz hSw; go_simp; first | done | with_reducible rfl)
  try simp only [nrm, Act.put]
  refine' wpAnyH_take (i := 3) (v := (.slice la ls.length lc)) rfl (by kernel_rfl) (by kernel_rfl) (by kernel_rfl) (fun _ _ _ h => h) (Or.inl ⟨by rfl, ?hy3004⟩) hHeld ?hn3004
  case hy3004 => (intro wz hSw; obtain ⟨j0, j1⟩ := hSw; go_simp)
  try simp only [nrm, Act.put]
  refine' wpAnyH_take (i := 4) (v := _) rfl (by kernel_rfl) (by kernel_rfl) (by kernel_rfl) (fun _ _ _ h => h) (Or.inl ⟨by rfl, ?hy3005⟩) hHeld ?hn3005
  case hy3005 => (intro wz hSw; go_simp; first | done | with_reducible rfl)
  try simp only [nrm, Act.put]
  refine wpAnyH_ready (rs := [5]) (by kernel_rfl) (by simp) ?_
  refine AllReadyH.cons rfl (fun K hK => ?_) AllReadyH.nil
  go_simp
  refine Calls.mono CN.out ?_
  rintro e' y1 ⟨zs, g, nc, rfl, rd1, ot1, own1, zl⟩
  refine hK.out _ _ (⟨ot1.cell (by show pb ≠ w.heap.size + 1; omega) hHeld.1, ot1.cell (by show pb ≠ w.heap.size + 1; omega) hHeld.2⟩) (fun hHeld => ?_)
  clear hK K
  refine wpAnyH_ready (rs := [6]) (by kernel_rfl) (by simp) ?_
  refine AllReadyH.cons rfl (fun K hK => ?_) AllReadyH.nil
  have Z1 := HZ2.out.oth (w' := y1) (Oth.trans (Oth.drew (Oth.refl _ _)) ot1) (by omega)
  have hset : ∀ b, b ≠ w.heap.size → ((y1.setCell ⟨w.heap.size, 0, none⟩ (.slice la ls.length lc)).setCell ⟨w.heap.size, 1, none⟩ (.slice sa (ln (d + 1) (l : List (Pay × Tr d × Tr d))) sc)).heap[b]? = y1.heap[b]? := fun b hb => (Below.heap_setCell _ _ _ _ hb).trans (Below.heap_setCell _ _ _ _ hb)
  have GG : Hid _ := (C2.set0 (.slice la ls.length lc) Z1).set1 (.slice sa (ln (d + 1) (l : List (Pay × Tr d × Tr d))) sc)
  have O3 : Oth (w.heap.size + 1) y0 y1 := Oth.trans (Oth.drew (Oth.refl _ _)) ot1
  have zz1 : y0.heap.size ≤ y1.heap.size := O3.size
  have FL := HLR.out.1.frame (P' := fun b => w.heap.size ≤ b) (w' := ((y1.setCell ⟨w.heap.size, 0, none⟩ (.slice la ls.length lc)).setCell ⟨w.heap.size, 1, none⟩ (.slice sa (ln (d + 1) (l : List (Pay × Tr d × Tr d))) sc))) (fun b p hl => ⟨(hset b (by omega)).trans (O3.block b hl (by omega)), by omega⟩)
  have FR := HLR.out.2.frame (P' := fun b => w.heap.size ≤ b) (w' := ((y1.setCell ⟨w.heap.size, 0, none⟩ (.slice la ls.length lc)).setCell ⟨w.heap.size, 1, none⟩ (.slice sa (ln (d + 1) (l : List (Pay × Tr d × Tr d))) sc))) (fun b p hl => ⟨(hset b (by omega)).trans (O3.block b hl (by omega)), by omega⟩)
  have own2 := rowp_frame (w' := ((y1.setCell ⟨w.heap.size, 0, none⟩ (.slice la ls.length lc)).setCell ⟨w.heap.size, 1, none⟩ (.slice sa (ln (d + 1) (l : List (Pay × Tr d × Tr d))) sc))) own1 (fun k hk => hset k (by have := (World.ownsRow.lt own1 k hk).1; have : y0.drew.heap.size = y0.heap.size := rfl; omega))
  have FB : Below w.heap.size w ((y1.setCell ⟨w.heap.size, 0, none⟩ (.slice la ls.length lc)).setCell ⟨w.heap.size, 1, none⟩ (.slice sa (ln (d + 1) (l : List (Pay × Tr d × Tr d))) sc)) := ((HB0.out.trans (O3.below (by omega) (by omega))).setCell (Nat.le_refl _) _).setCell (Nat.le_refl _) _
  have hk2 : ∀ o, ((y1.setCell ⟨w.heap.size, 0, none⟩ (.slice la ls.length lc)).setCell ⟨w.heap.size, 1, none⟩ (.slice sa (ln (d + 1) (l : List (Pay × Tr d × Tr d))) sc)).cell? ⟨pb, o, none⟩ = y1.cell? ⟨pb, o, none⟩ := fun o => World.cell?_of_block (hset pb (by omega))
  obtain ⟨⟨q0, q1⟩, u0, u1⟩ := id Z1
  go_simp
  generalize ((y1.setCell ⟨w.heap.size, 0, none⟩ (.slice la ls.length lc)).setCell ⟨w.heap.size, 1, none⟩ (.slice sa (ln (d + 1) (l : List (Pay × Tr d × Tr d))) sc)) = y2 at GG FL FR own2 FB hk2 ⊢
  clear q0 q1 u0 u1 Z1 hset
  refine hK.out _ _ (⟨(hk2 0).trans hHeld.1, (hk2 1).trans hHeld.2⟩) (fun hHeld => ?_)
  clear hK K
  refine' wpAnyH_take (i := 7) (v := _) rfl (by kernel_rfl) (by kernel_rfl) (by kernel_rfl) (fun _ _ _ h => h) (Or.inl ⟨by rfl, ?hy3006⟩) hHeld ?hn3006
  case hy3006 => (intro wz hSw; go_simp; first | done | with_reducible rfl)
  try simp only [nrm, Act.put]
  refine wpAnyH_done (by kernel_rfl) ?_ _
  have go := row_rep1 own2
  have hgg := (World.ownsRow.lt own2 g rfl).1
  have HF : Hid (LRep y2 (.slice la ls.length lc) ls ∧ Rep y2 (d + 1) (.slice sa (ln (d + 1) (l : List (Pay × Tr d × Tr d))) sc) (l : List (Pay × Tr d × Tr d)) ∧ GRep (Value.int .i64) y2 (.slice (some ⟨g, 0, none⟩) zs.length nc) zs ∧ Below w.heap.size w y2) := ⟨FL.rep, FR.rep, go, FB⟩
  clear hHeld rd1 ot1 own1 own2 O3 FL FR FB hk2 go CN HZ2 HB0 HLR hgg
  go_wp2
  obtain ⟨⟨q0, q1⟩, -⟩ := GG.out
  exact bodyPost_ret (v := .tuple #[.agg #[.slice la ls.length lc, .slice sa (ln (d + 1) (l : List (Pay × Tr d × Tr d))) sc], .slice (some ⟨g, 0, none⟩) zs.length nc]) (by simp [results, Try.results35, go_sem, q0, q1]) rfl ⟨la, sa, lc, sc, ls, d, l, zs, g, nc, rfl, HF.out.1, HF.out.2.1, HF.out.2.2.1, HF.out.2.2.2, ll, cn, zl⟩

set_option maxHeartbeats 4000000 in
set_option maxRecDepth 20000 in
theorem lcProg_same {d : Nat} {T : Tr d} {v0 s0 v1 s1 : Value} {ls : List (Int × Int)} {w : World} (hL : LRep w v0 ls) (hR : Rep w d s0 T) (hL' : LRep w v1 ls) (hR' : Rep w d s1 T) :
    Calls Try.prog 28 #[.agg #[v0, s0], .agg #[v1, s1]] w fun e w' => e = .returned (.bool true) ∧ Below w.heap.size w w' := by
  have A : Below w.heap.size w ((w.alloc (.cells #[v0, s0] 43)).alloc (.cells #[v1, s1] 43)) := ((Below.refl _ _).alloc (Nat.le_refl _) _).alloc (by simp) _
  have CS : Hid (∀ wx, Below w.heap.size w wx → Calls Try.prog 71 #[s0, s1] wx fun e w' => e = .returned (.bool true) ∧ Below wx.heap.size wx w') := (show ∀ wx, _ from fun wx hb => lcSteps_same d T _ _ _ (hR.below hb) (hR'.below hb))
  obtain ⟨la, lc, rfl, hlc, hlm, hcell⟩ := hL
  obtain ⟨la', lc', rfl, hlc', hlm', hcell'⟩ := hL'
  obtain ⟨sa, sc, rfl⟩ := hR.slice
  obtain ⟨sa', sc', rfl⟩ := hR'.slice
  have HC : Hid _ := hcell
  have HC' : Hid _ := hcell'
  have hlz : (ls.length : Int) ≤ 9223372036854775807 := by unfold maxLen at hlm; omega
  have G1 := (C2.new w (.slice la ls.length lc) (.slice sa (ln d T) sc) 43).same (Below.heap_alloc _ (.cells #[.slice la' ls.length lc', .slice sa' (ln d T) sc'] 43) _ (by simp))
  have G2 := C2.new (w.alloc (.cells #[.slice la ls.length lc, .slice sa (ln d T) sc] 43)) (.slice la' ls.length lc') (.slice sa' (ln d T) sc') 43
  rw [show (w.alloc (.cells #[.slice la ls.length lc, .slice sa (ln d T) sc] 43)).heap.size = w.heap.size + 1 by simp] at G2
  obtain ⟨W, hW⟩ : ∃ W, (w.alloc (.cells #[.slice la ls.length lc, .slice sa (ln d T) sc] 43)).alloc (.cells #[.slice la' ls.length lc', .slice sa' (ln d T) sc'] 43) = W := ⟨_, rfl⟩
  rw [hW] at A G1 G2
  have HW : Hid _ := hW
  have HA : Hid (Below w.heap.size w W) := A
  have HG1 : Hid (C2 W w.heap.size (.slice la ls.length lc) (.slice sa (ln d T) sc)) := G1
  have HG2 : Hid (C2 W (w.heap.size + 1) (.slice la' ls.length lc') (.slice sa' (ln d T) sc')) := G2
  clear hR hR' hcell hcell' A hW
  obtain ⟨⟨p0, p1⟩, -⟩ := G1
  obtain ⟨⟨q0, q1⟩, -⟩ := G2
  go_enter Try.func28, Try.ntmps28
  go_upto_region 1 with fail
  rw [HW.out]
  clear HW
  go_wp2_with fail
  go_loopw [5] (fun j wr => ∃ (i : Nat), i ≤ ls.length ∧ j = .int .i64 i ∧ Below W.heap.size W wr) (fun j _ => ls.length - (intOf j).toNat)
  case atStart => exact ⟨0, by omega, rfl, Below.refl _ _⟩
  case round =>
    obtain ⟨i, hi, rfl, hbr⟩ := hrel
    have HBR : Hid (Below W.heap.size W wr) := hbr
    have x0 := cell_later hbr p0
    have x1 := cell_later hbr p1
    have y0 := cell_later hbr q0
    have y1 := cell_later hbr q1
    by_cases hlt : i < ls.length
    · obtain ⟨b, off, rfl, k0, k1⟩ := HC.out i hlt
      obtain ⟨b', off', rfl, t0, t1⟩ := HC'.out i hlt
      have i0' : (0 : Int) ≤ (i : Int) := by omega
      have i1' : (i : Int) < (ls.length : Int) := by omega
      replace k0 := cell_later HA.out k0
      replace k1 := cell_later HA.out k1
      replace t0 := cell_later HA.out t0
      replace t1 := cell_later HA.out t1
      generalize ls[i].1 = k at *
      generalize ls[i].2 = t at *
      go_upto_region 6 with fail
      refine wp_region_held (S := (fun wz : World => Below W.heap.size W wz)) (by kernel_rfl) ?_
      change wpAnyH _ _ _ _ _ _ _ _ (World.drew _)
      have hHeld := (show (fun wz : World => Below W.heap.size W wz) (World.drew wr) from hbr.drew)
      clear x0 x1 y0 y1 hbr
      refine' wpAnyH_take (i := 0) (v := _) rfl (by kernel_rfl) (by kernel_rfl) (by kernel_rfl) (fun _ _ _ h => h) (Or.inl ⟨by rfl, ?hy3007⟩) hHeld ?hn3007
      case hy3007 => (intro wz hSw; go_simp; first | done | with_reducible rfl)
      try simp only [nrm, Act.put]
      refine' wpAnyH_take (i := 1) (v := (.slice (some ⟨b, off, none⟩) ls.length lc)) rfl (by kernel_rfl) (by kernel_rfl) (by kernel_rfl) (fun _ _ _ h => h) (Or.inl ⟨by rfl, ?hy3008⟩) hHeld ?hn3008
      case hy3008 => (intro wz hSw; have j0 := cell_later hSw p0; go_simp)
      try simp only [nrm, Act.put]
      refine' wpAnyH_take (i := 2) (v := _) rfl (by kernel_rfl) (by kernel_rfl) (by kernel_rfl) (fun _ _ _ h => h) (Or.inl ⟨by rfl, ?hy3009⟩) hHeld ?hn3009
      case hy3009 => (intro wz hSw; go_simp; first | done | with_reducible rfl)
      try simp only [nrm, Act.put]
      refine' wpAnyH_take (i := 3) (v := _) rfl (by kernel_rfl) (by kernel_rfl) (by kernel_rfl) (fun _ _ _ h => h) (Or.inl ⟨by rfl, ?hy3010⟩) hHeld ?hn3010
      case hy3010 => (intro wz hSw; go_simp; first | done | with_reducible rfl)
      try simp only [nrm, Act.put]
      refine' wpAnyH_take (i := 4) (v := (.agg #[.int .i64 k, .int .i64 t])) rfl (by kernel_rfl) (by kernel_rfl) (by kernel_rfl) (fun _ _ _ h => h) (Or.inl ⟨by rfl, ?hy3011⟩) hHeld ?hn3011
      case hy3011 => (intro wz hSw; have j0 := cell_later hSw k0; have j1 := cell_later hSw k1; go_simp)
      try simp only [nrm, Act.put]
      refine' wpAnyH_take (i := 5) (v := _) rfl (by kernel_rfl) (by kernel_rfl) (by kernel_rfl) (fun _ _ _ h => h) (Or.inl ⟨by rfl, ?hy3012⟩) hHeld ?hn3012
      case hy3012 => (intro wz hSw; go_simp; first | done | with_reducible rfl)
      try simp only [nrm, Act.put]
      refine' wpAnyH_take (i := 6) (v := (.slice (some ⟨b', off', none⟩) ls.length lc')) rfl (by kernel_rfl) (by kernel_rfl) (by kernel_rfl) (fun _ _ _ h => h) (Or.inl ⟨by rfl, ?hy3013⟩) hHeld ?hn3013
      case hy3013 => (intro wz hSw; have j0 := cell_later hSw q0; go_simp)
      try simp only [nrm, Act.put]
      refine' wpAnyH_take (i := 7) (v := _) rfl (by kernel_rfl) (by kernel_rfl) (by kernel_rfl) (fun _ _ _ h => h) (Or.inl ⟨by rfl, ?hy3014⟩) hHeld ?hn3014
      case hy3014 => (intro wz hSw; go_simp; first | done | with_reducible rfl)
      try simp only [nrm, Act.put]
      refine' wpAnyH_take (i := 8) (v := _) rfl (by kernel_rfl) (by kernel_rfl) (by kernel_rfl) (fun _ _ _ h => h) (Or.inl ⟨by rfl, ?hy3015⟩) hHeld ?hn3015
      case hy3015 => (intro wz hSw; go_simp; first | done | with_reducible rfl)
      try simp only [nrm, Act.put]
      refine' wpAnyH_take (i := 9) (v := (.agg #[.int .i64 k, .int .i64 t])) rfl (by kernel_rfl) (by kernel_rfl) (by kernel_rfl) (fun _ _ _ h => h) (Or.inl ⟨by rfl, ?hy3016⟩) hHeld ?hn3016
      case hy3016 => (intro wz hSw; have j0 := cell_later hSw t0; have j1 := cell_later hSw t1; go_simp)
      try simp only [nrm, Act.put]
      refine' wpAnyH_take (i := 10) (v := _) rfl (by kernel_rfl) (by kernel_rfl) (by kernel_rfl) (fun _ _ _ h => h) (Or.inl ⟨by rfl, ?hy3017⟩) hHeld ?hn3017
      case hy3017 => (intro wz hSw; go_simp; first | done | with_reducible rfl)
      try simp only [nrm, Act.put]
      refine wpAnyH_done (by kernel_rfl) ?_ _
      have HB6 : Hid (Below W.heap.size W _) := hHeld
      clear hHeld
      go_wp2
      exact ⟨⟨i + 1, by omega, by simp, HB6.out⟩, by simp [intOf]; omega⟩
    · have hie : i = ls.length := by omega
      subst hie
      have CS' : Hid _ := CS.out _ (Below.then HA.out hbr HA.out.size)
      clear hbr
      go_wp2_with fail
      (try go_at_call 71); refine Calls.mono CS'.out ?_
      rintro e wq ⟨rfl, hbq⟩
      have HBQ : Hid (Below w.heap.size w wq) := Below.then (Below.then HA.out HBR.out HA.out.size) hbq (Below.then HA.out HBR.out HA.out.size).size
      clear hbq x0 x1 y0 y1
      go_wp2
      go_ret
      exact ⟨rfl, HBQ.out⟩

end Go.Proofs.Ytfmhdjnambnglaa
