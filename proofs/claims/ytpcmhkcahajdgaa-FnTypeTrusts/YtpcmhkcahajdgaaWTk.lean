/- What a host may know, or trusts, of a drawn program: the laws, walked. -/
import Derived.Test.YtpcmhkcahajdgaaAnx
import Derived.Test.YtpcmhkcahajdgaaKnw
namespace Go.Proofs.Ytpcmhkcahajdgaa
open Go.RowKit
set_option linter.unusedSimpArgs false
set_option linter.unusedVariables false
attribute [local go_sem ↓] Go.wp_at_zero Go.wp_at_succ
attribute [local go_sem] World.cell?_alloc_some

theorem isRow_on {k : IntKind} {w w' : World} {a : Option Addr} {len cap : Nat} {zs : List Int} (h : IsRow k w a len cap zs) (hb : Below w.heap.size w w') : IsRow k w' a len cap zs := by
  rcases h with h | ⟨x, h0, h1, h2, h3, h4, h5⟩
  · exact .inl h
  · exact .inr ⟨x, h0, h1, h2, h3, fun i hi => cell_later hb (h4 i hi), h5⟩
/-- What is drawn: a program, and a number. -/
def DkPost (w : World) (e : Ending) (w' : World) : Prop := ∃ (lv sv : Value) (ls : List (Int × Int)) (d : Nat) (l : List (Pay × Tr d × Tr d)) (k : Int), e = .returned (.tuple #[.agg #[lv, sv], .int .i64 k]) ∧ LRepP (fun b => w.heap.size ≤ b) w' lv ls ∧ RepP (fun b => w.heap.size ≤ b) w' (d + 1) sv (l : List (Pay × Tr d × Tr d)) ∧ (1 ≤ ls.length ∧ ls.length ≤ 8) ∧ cnt (d + 1) (l : List (Pay × Tr d × Tr d)) ≤ 400 ∧ (-1 ≤ k ∧ k ≤ 3) ∧ Below w.heap.size w w'

set_option maxHeartbeats 4000000 in
theorem drawTypeKnows_any (w : World) (a0 : Option Addr) (len0 cap0 : Nat) (zs : List Int) (h : IsRow .u8 w a0 len0 cap0 zs) : Calls Try.prog 37 #[.slice a0 len0 cap0] w (DkPost w) := by
  have A0 : Below w.heap.size w (w.alloc (.cells #[.slice none 0 0, .slice none 0 0] 26)) := (Below.refl _ _).alloc (Nat.le_refl _) _
  have C1 : Hid _ := l6Open_any _ a0 len0 cap0 zs (isRow_on h A0)
  have Z0 := C2.new w (.slice none 0 0) (.slice none 0 0) 26
  have s0 : (w.alloc (.cells #[.slice none 0 0, .slice none 0 0] 26)).heap.size = w.heap.size + 1 := by simp
  have HZ0 : Hid (C2 (w.alloc (.cells #[.slice none 0 0, .slice none 0 0] 26)) w.heap.size (.slice none 0 0) (.slice none 0 0)) := Z0
  have HA0 : Hid (Below w.heap.size w (w.alloc (.cells #[.slice none 0 0, .slice none 0 0] 26))) := A0
  clear A0 Z0 h
  go_enter Try.func37, Try.ntmps37
  go_wp2_with fail
  go_at_call 63; refine Calls.mono C1.out ?_
  rintro e w1 ⟨rfl, rd1, sz1, hb1⟩
  have B1 : Below w.heap.size w w1 := Below.then HA0.out hb1 (by omega)
  have Z1 : C2 w1 w.heap.size (.slice none 0 0) (.slice none 0 0) := HZ0.out.same (hb1.block _ (by omega))
  rw [s0] at rd1 sz1 ⊢
  have P1 : Hid _ := l71Any_any w1 (w.heap.size + 1) 0 ⟨0, by omega, rd1⟩ (by omega)
  have HB1 : Hid (Below w.heap.size w w1) := B1
  have HZ1 : Hid (C2 w1 w.heap.size (.slice none 0 0) (.slice none 0 0)) := Z1
  clear hb1 B1 Z1 HZ0 HA0 C1 rd1
  go_wp2_with fail
  go_at_call 71; refine Calls.mono P1.out ?_
  rintro e w2 ⟨lv, sv, ls, d, l, rfl, hL, hR, ll, cn, rd2, ot2⟩
  have P2 : Hid _ := pick2 w2 (w.heap.size + 1) _ 5 rd2 (by omega) (by omega) (by omega)
  have Z2 : C2 w2 w.heap.size (.slice none 0 0) (.slice none 0 0) := HZ1.out.oth ot2 (by omega)
  have HZ2 : Hid (C2 w2 w.heap.size (.slice none 0 0) (.slice none 0 0)) := Z2
  have HB2 : Hid (Below w.heap.size w w2) := HB1.out.trans (ot2.below (by omega) (by omega))
  have HLR : Hid (LRepP (fun b => w1.heap.size ≤ b) w2 lv ls ∧ RepP (fun b => w1.heap.size ≤ b) w2 (d + 1) sv (l : List (Pay × Tr d × Tr d))) := ⟨hL, hR⟩
  obtain ⟨la, lc, rfl, -⟩ := hL.rep
  obtain ⟨sa, sc, rfl⟩ := hR.slice
  clear Z2 hL hR rd2 ot2 HZ1 HB1 P1
  go_wp2_with fail
  go_at_call 65; refine Calls.mono P2.out ?_
  rintro e w3 ⟨k, rfl, k0, k5, rd3, ot3⟩
  have Z3 : C2 w3 w.heap.size (.slice none 0 0) (.slice none 0 0) := HZ2.out.oth ot3 (by omega)
  have HZ3 : Hid (C2 w3 w.heap.size (.slice none 0 0) (.slice none 0 0)) := Z3
  have HB3 : Hid (Below w.heap.size w w3) := HB2.out.trans (ot3.below (by omega) (by have := HB2.out.size; omega))
  have hset : ∀ b, b ≠ w.heap.size → ((w3.setCell ⟨w.heap.size, 0, none⟩ (.slice la ls.length lc)).setCell ⟨w.heap.size, 1, none⟩ (.slice sa (ln (d + 1) (l : List (Pay × Tr d × Tr d))) sc)).heap[b]? = w3.heap[b]? := fun b hb => (Below.heap_setCell _ _ _ _ hb).trans (Below.heap_setCell _ _ _ _ hb)
  have HF : Hid (LRepP (fun b => w.heap.size ≤ b) ((w3.setCell ⟨w.heap.size, 0, none⟩ (.slice la ls.length lc)).setCell ⟨w.heap.size, 1, none⟩ (.slice sa (ln (d + 1) (l : List (Pay × Tr d × Tr d))) sc)) (.slice la ls.length lc) ls ∧ RepP (fun b => w.heap.size ≤ b) ((w3.setCell ⟨w.heap.size, 0, none⟩ (.slice la ls.length lc)).setCell ⟨w.heap.size, 1, none⟩ (.slice sa (ln (d + 1) (l : List (Pay × Tr d × Tr d))) sc)) (d + 1) (.slice sa (ln (d + 1) (l : List (Pay × Tr d × Tr d))) sc) (l : List (Pay × Tr d × Tr d))) :=
    ⟨HLR.out.1.frame (fun b p hl => ⟨(hset b (by omega)).trans (ot3.block b hl (by omega)), by omega⟩), HLR.out.2.frame (fun b p hl => ⟨(hset b (by omega)).trans (ot3.block b hl (by omega)), by omega⟩)⟩
  have GG : Hid _ := (C2.set0 (.slice la ls.length lc) Z3).set1 (.slice sa (ln (d + 1) (l : List (Pay × Tr d × Tr d))) sc)
  have vk := w64 (k - 1) (by omega)
  obtain ⟨⟨z0, z1⟩, u0, u1⟩ := Z3
  clear ot3 rd3 hset P2 HZ2 HB2 HLR HZ3
  go_wp2
  obtain ⟨⟨q0, q1⟩, -⟩ := GG.out
  exact bodyPost_ret (v := .tuple #[.agg #[.slice la ls.length lc, .slice sa (ln (d + 1) (l : List (Pay × Tr d × Tr d))) sc], .int .i64 (k - 1)]) (by simp [results, Try.results37, go_sem, q0, q1]) rfl ⟨_, _, ls, d, l, k - 1, rfl, HF.out.1, HF.out.2, ll, cn, by omega, (HB3.out.setCell (Nat.le_refl _) _).setCell (Nat.le_refl _) _⟩

theorem lcHas_any (s h : Int) (w : World) (s0 : 0 ≤ s) (s7 : s ≤ 7) (h0 : 0 ≤ h) (h1 : h ≤ 2) :
    Calls Try.prog 40 #[.int .i64 s, .int .i64 h] w fun e w' => e = .returned (.bool (hasB s h)) ∧ w' = w := by
  rw [← has_mod s0]
  go_enter Try.func40, Try.ntmps40
  go_wp2
  go_ret
  exact ⟨rfl, rfl⟩


set_option maxHeartbeats 8000000 in
set_option maxRecDepth 20000 in
theorem fnTypeKnows_walk (a0 : Option Addr) (len0 cap0 : Nat) (z0 : List Int) (w : World) (h0 : IsRow .u8 w a0 len0 cap0 z0) :
    Calls Try.prog 9 #[.slice a0 len0 cap0] w fun e w' => e = .returned (.bool true) ∧ Below w.heap.size w w' := by
  by_cases hl : (1048576 : Int) < (len0 : Int)
  · go_enter Try.func9, Try.ntmps9
    go_wp2
    go_ret
    exact ⟨rfl, Below.refl _ _⟩
  have C1 : Hid _ := drawTypeKnows_any w a0 len0 cap0 z0 h0
  clear h0
  go_enter Try.func9, Try.ntmps9
  go_wp2_with fail
  go_at_call 37; refine Calls.mono C1.out ?_
  rintro e w1 ⟨lv, sv, ls, d, l, k, rfl, hLp, hRp, ll, cn, hk, hb1⟩
  have hL := hLp.rep
  have hR := hRp.rep
  clear hLp hRp
  have A : Below w1.heap.size w1 (w1.alloc (.cells #[lv, sv] 26)) := (Below.refl _ _).alloc (Nat.le_refl _) _
  have C2' : Hid _ := typeKnows_any k (hL.below A) (hR.below A)
  have G2 := C2.new w1 lv sv 26
  have HLR : Hid (∀ wz, Below w1.heap.size w1 wz → LRep wz lv ls ∧ Rep wz (d + 1) sv (l : List (Pay × Tr d × Tr d))) := (show ∀ wz, _ from fun wz hb => ⟨hL.below hb, hR.below hb⟩)
  have HB1 : Hid (Below w.heap.size w w1) := hb1
  obtain ⟨la, lc, rfl, hll, hlm, hlc⟩ := hL
  obtain ⟨sa, sc, rfl⟩ := hR.slice
  have HLC : Hid _ := hlc
  have HA : Hid (Below w1.heap.size w1 (w1.alloc (.cells #[.slice la ls.length lc, .slice sa (ln (d + 1) (l : List (Pay × Tr d × Tr d))) sc] 26))) := A
  have HG2 : Hid (C2 (w1.alloc (.cells #[.slice la ls.length lc, .slice sa (ln (d + 1) (l : List (Pay × Tr d × Tr d))) sc] 26)) w1.heap.size (.slice la ls.length lc) (.slice sa (ln (d + 1) (l : List (Pay × Tr d × Tr d))) sc)) := G2
  have z2 : (w1.alloc (.cells #[.slice la ls.length lc, .slice sa (ln (d + 1) (l : List (Pay × Tr d × Tr d))) sc] 26)).heap.size = w1.heap.size + 1 := by simp
  have HZ2 : Hid _ := z2
  clear hR hb1 C1 A G2 hlc z2
  obtain ⟨xs, hxs⟩ : ∃ xs, (if progB ls (d + 1) (l : List (Pay × Tr d × Tr d)) then knowL ls k else []) = xs := ⟨_, rfl⟩
  have HX : Hid (∀ i (hi : i < xs.length), ∃ (hi' : i < ls.length), xs[i] = hosB ls[i].1 k ∧ 0 ≤ ls[i].1 ∧ ls[i].1 ≤ 7) := (show ∀ i (hi : i < xs.length), _ by
    intro i hi
    cases hp : progB ls (d + 1) (l : List (Pay × Tr d × Tr d))
    · rw [hp] at hxs; simp at hxs; subst hxs; simp at hi
    · rw [hp] at hxs
      simp only [if_true] at hxs
      subst hxs
      have hi' : i < ls.length := by simpa [knowL] using hi
      have := List.all_eq_true.1 (progB_labs hp) ls[i] (List.getElem_mem hi')
      have ok := okB_iff.1 this
      exact ⟨hi', by simp [knowL], ok.1.1, ok.1.2⟩)
  have lx : xs.length ≤ 8 := by
    rw [← hxs]
    split
    · simp [knowL]; omega
    · simp
  rw [hxs] at C2'
  have HXS : Hid _ := hxs
  clear hxs
  go_wp2_with fail
  go_at_call 38; refine Calls.mono C2'.out ?_
  rintro e w3 ⟨gv, gbs, rfl, hb3, og, -⟩
  obtain ⟨ga, gc, rfl, hgl, hgm, hgc⟩ := og.rep
  have hB13 : Below w1.heap.size w1 w3 := Below.then HA.out hb3 HA.out.size
  have C3' : Hid _ := sTypeKnows_any k (HLR.out w3 hB13).1 (HLR.out w3 hB13).2 (by omega)
  rw [HXS.out] at C3'
  have G3 := HG2.out.same (hb3.block _ (by have := HZ2.out; omega))
  have HG3 : Hid (C2 w3 w1.heap.size (.slice la ls.length lc) (.slice sa (ln (d + 1) (l : List (Pay × Tr d × Tr d))) sc)) := G3
  have HGC : Hid _ := hgc
  have HB13 : Hid (Below w1.heap.size w1 w3) := hB13
  have z3 : w1.heap.size < w3.heap.size := by have := hb3.size; have := HZ2.out; omega
  obtain ⟨⟨p0, p1⟩, -⟩ := G3
  clear hb3 og hgc hB13 C2' HG2 HA
  go_wp2_with fail
  go_at_call 39; refine Calls.mono C3'.out ?_
  rintro e w4 ⟨cv, cbs, rfl, hb4, oc, -⟩
  obtain ⟨ca, cc, rfl, hcl, hcm, hcc⟩ := oc.rep
  have G4 := HG3.out.same (hb4.block _ z3)
  have HG4 : Hid (C2 w4 w1.heap.size (.slice la ls.length lc) (.slice sa (ln (d + 1) (l : List (Pay × Tr d × Tr d))) sc)) := G4
  have HB14 : Hid (Below w1.heap.size w1 w4) := Below.then HB13.out hb4 HB13.out.size
  have HC : Hid (∀ i (hi : i < xs.length), ∃ gb go cb co lb lf, ga = some ⟨gb, go, none⟩ ∧ ca = some ⟨cb, co, none⟩ ∧ la = some ⟨lb, lf, none⟩ ∧ w4.cell? ⟨gb, go + i, none⟩ = some (.bool xs[i]) ∧ w4.cell? ⟨cb, co + i, none⟩ = some (.bool xs[i]) ∧ ∃ s, hosB s k = xs[i] ∧ 0 ≤ s ∧ s ≤ 7 ∧ i < ls.length ∧ w4.cell? ⟨lb, lf + i * 2, none⟩ = some (.int .i64 s)) := (show ∀ i (hi : i < xs.length), _ by
    intro i hi
    obtain ⟨hi', e1, s0, s7⟩ := HX.out i hi
    obtain ⟨gb, go, hga, g0⟩ := HGC.out i hi
    obtain ⟨cb, co, hca, c0⟩ := hcc i hi
    obtain ⟨lb, lf, hla, l0, l1⟩ := HLC.out i hi'
    exact ⟨gb, go, cb, co, lb, lf, hga, hca, hla, cell_later hb4 g0, c0, _, e1.symm, s0, s7, hi', cell_later HB14.out l0⟩)
  have HBW : Hid (Below w.heap.size w w4) := Below.then HB1.out HB14.out HB1.out.size
  have z4 : w1.heap.size < w4.heap.size := by have := hb4.size; omega
  have hlm' : (ls.length : Int) ≤ 9223372036854775807 := by omega
  clear hb4 oc hcc C3' HG3 HGC HLC HX HB13 HB14 HLR HXS HB1 p0 p1 G4 HZ2 z3
  go_wp2
  go_loopw [7, 8] (fun j q wr => ∃ i : Nat, i ≤ xs.length ∧ j = .int .i64 i ∧ Below w4.heap.size w4 wr) (fun j _ _ => xs.length - (intOf j).toNat)
  case atStart => exact ⟨0, by omega, rfl, Below.refl _ _⟩
  case round =>
    obtain ⟨i, hi, rfl, hbr⟩ := hrel
    have HBR : Hid (Below w4.heap.size w4 wr) := hbr
    by_cases hlt : i < xs.length
    · obtain ⟨gb, go, cb, co, lb, lf, rfl, rfl, rfl, g0, c0, s, hs, s0, s7, hil, l0⟩ := HC.out i hlt
      replace g0 := cell_later hbr g0
      replace c0 := cell_later hbr c0
      replace l0 := cell_later hbr l0
      obtain ⟨⟨p0, p1⟩, -⟩ := HG4.out.same (hbr.block _ z4)
      have ngb : gb < wr.heap.size := World.block_lt_of_cell? _ _ g0
      have ncb : cb < wr.heap.size := World.block_lt_of_cell? _ _ c0
      have i0' : (0 : Int) ≤ (i : Int) := by omega
      have i1' : (i : Int) < (xs.length : Int) := by omega
      have i2' : (i : Int) < (ls.length : Int) := by omega
      clear hbr
      generalize xs[i] = x at *
      by_cases hk0 : 0 ≤ k
      · by_cases hk3 : k < 3
        · have hx : hasB s k = x := by rw [← hs]; simp [hosB, hk0, hk3]
          clear hs
          go_wp2_with fail
          go_at_call 40; refine (lcHas_any _ _ _ s0 s7 hk0 (by omega)).mono ?_; rintro e w5 ⟨rfl, hw5⟩
          rw [hw5, hx]
          clear hw5 w5 hx p0 p1 l0
          go_wp2_with fail
          refine wp_region_held (S := (fun wz => Below wr.heap.size wr wz)) (by kernel_rfl) ?_
          change wpAnyH _ _ _ _ _ _ _ _ (World.drew _)
          have hHeld := (show Below wr.heap.size wr (World.drew wr) from (Below.refl _ _).drew)
          refine' wpAnyH_take (i := 0) (v := _) rfl (by kernel_rfl) (by kernel_rfl) (by kernel_rfl) (fun _ _ _ h => h) (Or.inl ⟨by rfl, ?hy40001⟩) hHeld ?hn40001
          case hy40001 => (intro wz hSw; (try dsimp only at hSw); go_simp; first | done | with_reducible rfl)
          try simp only [List.getElem_toArray, List.getElem_cons_zero, List.getElem_cons_succ, Act.put, List.setIfInBounds_toArray, List.set_cons_zero, List.set_cons_succ]
          refine' wpAnyH_take (i := 1) (v := _) rfl (by kernel_rfl) (by kernel_rfl) (by kernel_rfl) (fun _ _ _ h => h) (Or.inl ⟨by rfl, ?hy40002⟩) hHeld ?hn40002
          case hy40002 => (intro wz hSw; (try dsimp only at hSw); go_simp; first | done | with_reducible rfl)
          try simp only [List.getElem_toArray, List.getElem_cons_zero, List.getElem_cons_succ, Act.put, List.setIfInBounds_toArray, List.set_cons_zero, List.set_cons_succ]
          refine' wpAnyH_take (i := 2) (v := _) rfl (by kernel_rfl) (by kernel_rfl) (by kernel_rfl) (fun _ _ _ h => h) (Or.inl ⟨by rfl, ?hy40003⟩) hHeld ?hn40003
          case hy40003 => (intro wz hSw; (try dsimp only at hSw); go_simp; first | done | with_reducible rfl)
          try simp only [List.getElem_toArray, List.getElem_cons_zero, List.getElem_cons_succ, Act.put, List.setIfInBounds_toArray, List.set_cons_zero, List.set_cons_succ]
          refine' wpAnyH_take (i := 3) (v := .bool x) rfl (by kernel_rfl) (by kernel_rfl) (by kernel_rfl) (fun _ _ _ h => h) (Or.inl ⟨by rfl, ?hy40004⟩) hHeld ?hn40004
          case hy40004 => (intro wz hSw; have j0 := (hSw.cell (p := ⟨gb, go + i, none⟩) ngb).trans g0; go_simp)
          try simp only [List.getElem_toArray, List.getElem_cons_zero, List.getElem_cons_succ, Act.put, List.setIfInBounds_toArray, List.set_cons_zero, List.set_cons_succ]
          refine' wpAnyH_take (i := 4) (v := _) rfl (by kernel_rfl) (by kernel_rfl) (by kernel_rfl) (fun _ _ _ h => h) (Or.inl ⟨by rfl, ?hy40005⟩) hHeld ?hn40005
          case hy40005 => (intro wz hSw; (try dsimp only at hSw); go_simp; first | done | with_reducible rfl)
          try simp only [List.getElem_toArray, List.getElem_cons_zero, List.getElem_cons_succ, Act.put, List.setIfInBounds_toArray, List.set_cons_zero, List.set_cons_succ]
          refine' wpAnyH_take (i := 5) (v := _) rfl (by kernel_rfl) (by kernel_rfl) (by kernel_rfl) (fun _ _ _ h => h) (Or.inl ⟨by rfl, ?hy40006⟩) hHeld ?hn40006
          case hy40006 => (intro wz hSw; (try dsimp only at hSw); go_simp; first | done | with_reducible rfl)
          try simp only [List.getElem_toArray, List.getElem_cons_zero, List.getElem_cons_succ, Act.put, List.setIfInBounds_toArray, List.set_cons_zero, List.set_cons_succ]
          refine' wpAnyH_take (i := 6) (v := _) rfl (by kernel_rfl) (by kernel_rfl) (by kernel_rfl) (fun _ _ _ h => h) (Or.inl ⟨by rfl, ?hy40007⟩) hHeld ?hn40007
          case hy40007 => (intro wz hSw; (try dsimp only at hSw); go_simp; first | done | with_reducible rfl)
          try simp only [List.getElem_toArray, List.getElem_cons_zero, List.getElem_cons_succ, Act.put, List.setIfInBounds_toArray, List.set_cons_zero, List.set_cons_succ]
          refine' wpAnyH_take (i := 7) (v := .bool x) rfl (by kernel_rfl) (by kernel_rfl) (by kernel_rfl) (fun _ _ _ h => h) (Or.inl ⟨by rfl, ?hy40008⟩) hHeld ?hn40008
          case hy40008 => (intro wz hSw; have j0 := (hSw.cell (p := ⟨cb, co + i, none⟩) ncb).trans c0; go_simp)
          try simp only [List.getElem_toArray, List.getElem_cons_zero, List.getElem_cons_succ, Act.put, List.setIfInBounds_toArray, List.set_cons_zero, List.set_cons_succ]
          refine' wpAnyH_take (i := 8) (v := .bool false) rfl (by kernel_rfl) (by kernel_rfl) (by kernel_rfl) (fun _ _ _ h => h) (Or.inl ⟨by rfl, ?hy40009⟩) hHeld ?hn40009
          case hy40009 => (intro wz hSw; go_simp; first | done | simp)
          try simp only [List.getElem_toArray, List.getElem_cons_zero, List.getElem_cons_succ, Act.put, List.setIfInBounds_toArray, List.set_cons_zero, List.set_cons_succ]
          refine' wpAnyH_take (i := 9) (v := .bool false) rfl (by kernel_rfl) (by kernel_rfl) (by kernel_rfl) (fun _ _ _ h => h) (Or.inl ⟨by rfl, ?hy40010⟩) hHeld ?hn40010
          case hy40010 => (intro wz hSw; go_simp; first | done | with_reducible rfl)
          try simp only [List.getElem_toArray, List.getElem_cons_zero, List.getElem_cons_succ, Act.put, List.setIfInBounds_toArray, List.set_cons_zero, List.set_cons_succ]
          refine' wpAnyH_take (i := 10) (v := _) rfl (by kernel_rfl) (by kernel_rfl) (by kernel_rfl) (fun _ _ _ h => h) (Or.inl ⟨by rfl, ?hy40011⟩) hHeld ?hn40011
          case hy40011 => (intro wz hSw; (try dsimp only at hSw); go_simp; first | done | with_reducible rfl)
          try simp only [List.getElem_toArray, List.getElem_cons_zero, List.getElem_cons_succ, Act.put, List.setIfInBounds_toArray, List.set_cons_zero, List.set_cons_succ]
          refine' wpAnyH_take (i := 11) (v := _) rfl (by kernel_rfl) (by kernel_rfl) (by kernel_rfl) (fun _ _ _ h => h) (Or.inl ⟨by rfl, ?hy40012⟩) hHeld ?hn40012
          case hy40012 => (intro wz hSw; (try dsimp only at hSw); go_simp; first | done | with_reducible rfl)
          try simp only [List.getElem_toArray, List.getElem_cons_zero, List.getElem_cons_succ, Act.put, List.setIfInBounds_toArray, List.set_cons_zero, List.set_cons_succ]
          refine' wpAnyH_take (i := 12) (v := _) rfl (by kernel_rfl) (by kernel_rfl) (by kernel_rfl) (fun _ _ _ h => h) (Or.inl ⟨by rfl, ?hy40013⟩) hHeld ?hn40013
          case hy40013 => (intro wz hSw; (try dsimp only at hSw); go_simp; first | done | with_reducible rfl)
          try simp only [List.getElem_toArray, List.getElem_cons_zero, List.getElem_cons_succ, Act.put, List.setIfInBounds_toArray, List.set_cons_zero, List.set_cons_succ]
          refine' wpAnyH_take (i := 13) (v := .bool x) rfl (by kernel_rfl) (by kernel_rfl) (by kernel_rfl) (fun _ _ _ h => h) (Or.inl ⟨by rfl, ?hy40014⟩) hHeld ?hn40014
          case hy40014 => (intro wz hSw; have j0 := (hSw.cell (p := ⟨gb, go + i, none⟩) ngb).trans g0; go_simp)
          try simp only [List.getElem_toArray, List.getElem_cons_zero, List.getElem_cons_succ, Act.put, List.setIfInBounds_toArray, List.set_cons_zero, List.set_cons_succ]
          refine' wpAnyH_take (i := 14) (v := _) rfl (by kernel_rfl) (by kernel_rfl) (by kernel_rfl) (fun _ _ _ h => h) (Or.inl ⟨by rfl, ?hy40015⟩) hHeld ?hn40015
          case hy40015 => (intro wz hSw; (try dsimp only at hSw); go_simp; first | done | with_reducible rfl)
          try simp only [List.getElem_toArray, List.getElem_cons_zero, List.getElem_cons_succ, Act.put, List.setIfInBounds_toArray, List.set_cons_zero, List.set_cons_succ]
          refine' wpAnyH_take (i := 15) (v := .bool false) rfl (by kernel_rfl) (by kernel_rfl) (by kernel_rfl) (fun _ _ _ h => h) (Or.inl ⟨by rfl, ?hy40016⟩) hHeld ?hn40016
          case hy40016 => (intro wz hSw; go_simp; first | done | simp)
          try simp only [List.getElem_toArray, List.getElem_cons_zero, List.getElem_cons_succ, Act.put, List.setIfInBounds_toArray, List.set_cons_zero, List.set_cons_succ]
          refine' wpAnyH_take (i := 16) (v := .bool false) rfl (by kernel_rfl) (by kernel_rfl) (by kernel_rfl) (fun _ _ _ h => h) (Or.inl ⟨by rfl, ?hy40017⟩) hHeld ?hn40017
          case hy40017 => (intro wz hSw; go_simp; first | done | with_reducible rfl)
          try simp only [List.getElem_toArray, List.getElem_cons_zero, List.getElem_cons_succ, Act.put, List.setIfInBounds_toArray, List.set_cons_zero, List.set_cons_succ]
          refine wpAnyH_done (by kernel_rfl) ?_ _
          have HB9 : Hid (Below w4.heap.size w4 wr.drew) := HBR.out.drew
          clear hHeld HBR g0 c0
          go_wp2
          exact ⟨⟨i + 1, by omega, by simp, HB9.out⟩, by simp [intOf]; omega⟩
        · have hx : x = false := by rw [← hs]; simp [hosB, hk3]
          subst hx
          clear hs
          go_wp2_with fail
          refine wp_region_held (S := (fun wz => Below wr.heap.size wr wz)) (by kernel_rfl) ?_
          change wpAnyH _ _ _ _ _ _ _ _ (World.drew _)
          have hHeld := (show Below wr.heap.size wr (World.drew wr) from (Below.refl _ _).drew)
          refine' wpAnyH_take (i := 0) (v := _) rfl (by kernel_rfl) (by kernel_rfl) (by kernel_rfl) (fun _ _ _ h => h) (Or.inl ⟨by rfl, ?hy40018⟩) hHeld ?hn40018
          case hy40018 => (intro wz hSw; (try dsimp only at hSw); go_simp; first | done | with_reducible rfl)
          try simp only [List.getElem_toArray, List.getElem_cons_zero, List.getElem_cons_succ, Act.put, List.setIfInBounds_toArray, List.set_cons_zero, List.set_cons_succ]
          refine' wpAnyH_take (i := 1) (v := _) rfl (by kernel_rfl) (by kernel_rfl) (by kernel_rfl) (fun _ _ _ h => h) (Or.inl ⟨by rfl, ?hy40019⟩) hHeld ?hn40019
          case hy40019 => (intro wz hSw; (try dsimp only at hSw); go_simp; first | done | with_reducible rfl)
          try simp only [List.getElem_toArray, List.getElem_cons_zero, List.getElem_cons_succ, Act.put, List.setIfInBounds_toArray, List.set_cons_zero, List.set_cons_succ]
          refine' wpAnyH_take (i := 2) (v := _) rfl (by kernel_rfl) (by kernel_rfl) (by kernel_rfl) (fun _ _ _ h => h) (Or.inl ⟨by rfl, ?hy40020⟩) hHeld ?hn40020
          case hy40020 => (intro wz hSw; (try dsimp only at hSw); go_simp; first | done | with_reducible rfl)
          try simp only [List.getElem_toArray, List.getElem_cons_zero, List.getElem_cons_succ, Act.put, List.setIfInBounds_toArray, List.set_cons_zero, List.set_cons_succ]
          refine' wpAnyH_take (i := 3) (v := .bool false) rfl (by kernel_rfl) (by kernel_rfl) (by kernel_rfl) (fun _ _ _ h => h) (Or.inl ⟨by rfl, ?hy40021⟩) hHeld ?hn40021
          case hy40021 => (intro wz hSw; have j0 := (hSw.cell (p := ⟨gb, go + i, none⟩) ngb).trans g0; go_simp)
          try simp only [List.getElem_toArray, List.getElem_cons_zero, List.getElem_cons_succ, Act.put, List.setIfInBounds_toArray, List.set_cons_zero, List.set_cons_succ]
          refine' wpAnyH_take (i := 4) (v := _) rfl (by kernel_rfl) (by kernel_rfl) (by kernel_rfl) (fun _ _ _ h => h) (Or.inl ⟨by rfl, ?hy40022⟩) hHeld ?hn40022
          case hy40022 => (intro wz hSw; (try dsimp only at hSw); go_simp; first | done | with_reducible rfl)
          try simp only [List.getElem_toArray, List.getElem_cons_zero, List.getElem_cons_succ, Act.put, List.setIfInBounds_toArray, List.set_cons_zero, List.set_cons_succ]
          refine' wpAnyH_take (i := 5) (v := _) rfl (by kernel_rfl) (by kernel_rfl) (by kernel_rfl) (fun _ _ _ h => h) (Or.inl ⟨by rfl, ?hy40023⟩) hHeld ?hn40023
          case hy40023 => (intro wz hSw; (try dsimp only at hSw); go_simp; first | done | with_reducible rfl)
          try simp only [List.getElem_toArray, List.getElem_cons_zero, List.getElem_cons_succ, Act.put, List.setIfInBounds_toArray, List.set_cons_zero, List.set_cons_succ]
          refine' wpAnyH_take (i := 6) (v := _) rfl (by kernel_rfl) (by kernel_rfl) (by kernel_rfl) (fun _ _ _ h => h) (Or.inl ⟨by rfl, ?hy40024⟩) hHeld ?hn40024
          case hy40024 => (intro wz hSw; (try dsimp only at hSw); go_simp; first | done | with_reducible rfl)
          try simp only [List.getElem_toArray, List.getElem_cons_zero, List.getElem_cons_succ, Act.put, List.setIfInBounds_toArray, List.set_cons_zero, List.set_cons_succ]
          refine' wpAnyH_take (i := 7) (v := .bool false) rfl (by kernel_rfl) (by kernel_rfl) (by kernel_rfl) (fun _ _ _ h => h) (Or.inl ⟨by rfl, ?hy40025⟩) hHeld ?hn40025
          case hy40025 => (intro wz hSw; have j0 := (hSw.cell (p := ⟨cb, co + i, none⟩) ncb).trans c0; go_simp)
          try simp only [List.getElem_toArray, List.getElem_cons_zero, List.getElem_cons_succ, Act.put, List.setIfInBounds_toArray, List.set_cons_zero, List.set_cons_succ]
          refine' wpAnyH_take (i := 8) (v := .bool false) rfl (by kernel_rfl) (by kernel_rfl) (by kernel_rfl) (fun _ _ _ h => h) (Or.inl ⟨by rfl, ?hy40026⟩) hHeld ?hn40026
          case hy40026 => (intro wz hSw; go_simp; first | done | simp)
          try simp only [List.getElem_toArray, List.getElem_cons_zero, List.getElem_cons_succ, Act.put, List.setIfInBounds_toArray, List.set_cons_zero, List.set_cons_succ]
          refine' wpAnyH_take (i := 9) (v := .bool false) rfl (by kernel_rfl) (by kernel_rfl) (by kernel_rfl) (fun _ _ _ h => h) (Or.inl ⟨by rfl, ?hy40027⟩) hHeld ?hn40027
          case hy40027 => (intro wz hSw; go_simp; first | done | with_reducible rfl)
          try simp only [List.getElem_toArray, List.getElem_cons_zero, List.getElem_cons_succ, Act.put, List.setIfInBounds_toArray, List.set_cons_zero, List.set_cons_succ]
          refine' wpAnyH_take (i := 10) (v := _) rfl (by kernel_rfl) (by kernel_rfl) (by kernel_rfl) (fun _ _ _ h => h) (Or.inl ⟨by rfl, ?hy40028⟩) hHeld ?hn40028
          case hy40028 => (intro wz hSw; (try dsimp only at hSw); go_simp; first | done | with_reducible rfl)
          try simp only [List.getElem_toArray, List.getElem_cons_zero, List.getElem_cons_succ, Act.put, List.setIfInBounds_toArray, List.set_cons_zero, List.set_cons_succ]
          refine' wpAnyH_take (i := 11) (v := _) rfl (by kernel_rfl) (by kernel_rfl) (by kernel_rfl) (fun _ _ _ h => h) (Or.inl ⟨by rfl, ?hy40029⟩) hHeld ?hn40029
          case hy40029 => (intro wz hSw; (try dsimp only at hSw); go_simp; first | done | with_reducible rfl)
          try simp only [List.getElem_toArray, List.getElem_cons_zero, List.getElem_cons_succ, Act.put, List.setIfInBounds_toArray, List.set_cons_zero, List.set_cons_succ]
          refine' wpAnyH_take (i := 12) (v := _) rfl (by kernel_rfl) (by kernel_rfl) (by kernel_rfl) (fun _ _ _ h => h) (Or.inl ⟨by rfl, ?hy40030⟩) hHeld ?hn40030
          case hy40030 => (intro wz hSw; (try dsimp only at hSw); go_simp; first | done | with_reducible rfl)
          try simp only [List.getElem_toArray, List.getElem_cons_zero, List.getElem_cons_succ, Act.put, List.setIfInBounds_toArray, List.set_cons_zero, List.set_cons_succ]
          refine' wpAnyH_take (i := 13) (v := .bool false) rfl (by kernel_rfl) (by kernel_rfl) (by kernel_rfl) (fun _ _ _ h => h) (Or.inl ⟨by rfl, ?hy40031⟩) hHeld ?hn40031
          case hy40031 => (intro wz hSw; have j0 := (hSw.cell (p := ⟨gb, go + i, none⟩) ngb).trans g0; go_simp)
          try simp only [List.getElem_toArray, List.getElem_cons_zero, List.getElem_cons_succ, Act.put, List.setIfInBounds_toArray, List.set_cons_zero, List.set_cons_succ]
          refine' wpAnyH_take (i := 14) (v := _) rfl (by kernel_rfl) (by kernel_rfl) (by kernel_rfl) (fun _ _ _ h => h) (Or.inl ⟨by rfl, ?hy40032⟩) hHeld ?hn40032
          case hy40032 => (intro wz hSw; (try dsimp only at hSw); go_simp; first | done | with_reducible rfl)
          try simp only [List.getElem_toArray, List.getElem_cons_zero, List.getElem_cons_succ, Act.put, List.setIfInBounds_toArray, List.set_cons_zero, List.set_cons_succ]
          refine' wpAnyH_take (i := 15) (v := .bool false) rfl (by kernel_rfl) (by kernel_rfl) (by kernel_rfl) (fun _ _ _ h => h) (Or.inl ⟨by rfl, ?hy40033⟩) hHeld ?hn40033
          case hy40033 => (intro wz hSw; go_simp; first | done | simp)
          try simp only [List.getElem_toArray, List.getElem_cons_zero, List.getElem_cons_succ, Act.put, List.setIfInBounds_toArray, List.set_cons_zero, List.set_cons_succ]
          refine' wpAnyH_take (i := 16) (v := .bool false) rfl (by kernel_rfl) (by kernel_rfl) (by kernel_rfl) (fun _ _ _ h => h) (Or.inl ⟨by rfl, ?hy40034⟩) hHeld ?hn40034
          case hy40034 => (intro wz hSw; go_simp; first | done | with_reducible rfl)
          try simp only [List.getElem_toArray, List.getElem_cons_zero, List.getElem_cons_succ, Act.put, List.setIfInBounds_toArray, List.set_cons_zero, List.set_cons_succ]
          refine wpAnyH_done (by kernel_rfl) ?_ _
          have HB9 : Hid (Below w4.heap.size w4 wr.drew) := HBR.out.drew
          clear hHeld HBR g0 c0
          go_wp2
          exact ⟨⟨i + 1, by omega, by simp, HB9.out⟩, by simp [intOf]; omega⟩
      · have hx : x = false := by rw [← hs]; simp [hosB, hk0]
        subst hx
        clear hs
        go_wp2_with fail
        refine wp_region_held (S := (fun wz => Below wr.heap.size wr wz)) (by kernel_rfl) ?_
        change wpAnyH _ _ _ _ _ _ _ _ (World.drew _)
        have hHeld := (show Below wr.heap.size wr (World.drew wr) from (Below.refl _ _).drew)
        refine' wpAnyH_take (i := 0) (v := _) rfl (by kernel_rfl) (by kernel_rfl) (by kernel_rfl) (fun _ _ _ h => h) (Or.inl ⟨by rfl, ?hy40035⟩) hHeld ?hn40035
        case hy40035 => (intro wz hSw; (try dsimp only at hSw); go_simp; first | done | with_reducible rfl)
        try simp only [List.getElem_toArray, List.getElem_cons_zero, List.getElem_cons_succ, Act.put, List.setIfInBounds_toArray, List.set_cons_zero, List.set_cons_succ]
        refine' wpAnyH_take (i := 1) (v := _) rfl (by kernel_rfl) (by kernel_rfl) (by kernel_rfl) (fun _ _ _ h => h) (Or.inl ⟨by rfl, ?hy40036⟩) hHeld ?hn40036
        case hy40036 => (intro wz hSw; (try dsimp only at hSw); go_simp; first | done | with_reducible rfl)
        try simp only [List.getElem_toArray, List.getElem_cons_zero, List.getElem_cons_succ, Act.put, List.setIfInBounds_toArray, List.set_cons_zero, List.set_cons_succ]
        refine' wpAnyH_take (i := 2) (v := _) rfl (by kernel_rfl) (by kernel_rfl) (by kernel_rfl) (fun _ _ _ h => h) (Or.inl ⟨by rfl, ?hy40037⟩) hHeld ?hn40037
        case hy40037 => (intro wz hSw; (try dsimp only at hSw); go_simp; first | done | with_reducible rfl)
        try simp only [List.getElem_toArray, List.getElem_cons_zero, List.getElem_cons_succ, Act.put, List.setIfInBounds_toArray, List.set_cons_zero, List.set_cons_succ]
        refine' wpAnyH_take (i := 3) (v := .bool false) rfl (by kernel_rfl) (by kernel_rfl) (by kernel_rfl) (fun _ _ _ h => h) (Or.inl ⟨by rfl, ?hy40038⟩) hHeld ?hn40038
        case hy40038 => (intro wz hSw; have j0 := (hSw.cell (p := ⟨gb, go + i, none⟩) ngb).trans g0; go_simp)
        try simp only [List.getElem_toArray, List.getElem_cons_zero, List.getElem_cons_succ, Act.put, List.setIfInBounds_toArray, List.set_cons_zero, List.set_cons_succ]
        refine' wpAnyH_take (i := 4) (v := _) rfl (by kernel_rfl) (by kernel_rfl) (by kernel_rfl) (fun _ _ _ h => h) (Or.inl ⟨by rfl, ?hy40039⟩) hHeld ?hn40039
        case hy40039 => (intro wz hSw; (try dsimp only at hSw); go_simp; first | done | with_reducible rfl)
        try simp only [List.getElem_toArray, List.getElem_cons_zero, List.getElem_cons_succ, Act.put, List.setIfInBounds_toArray, List.set_cons_zero, List.set_cons_succ]
        refine' wpAnyH_take (i := 5) (v := _) rfl (by kernel_rfl) (by kernel_rfl) (by kernel_rfl) (fun _ _ _ h => h) (Or.inl ⟨by rfl, ?hy40040⟩) hHeld ?hn40040
        case hy40040 => (intro wz hSw; (try dsimp only at hSw); go_simp; first | done | with_reducible rfl)
        try simp only [List.getElem_toArray, List.getElem_cons_zero, List.getElem_cons_succ, Act.put, List.setIfInBounds_toArray, List.set_cons_zero, List.set_cons_succ]
        refine' wpAnyH_take (i := 6) (v := _) rfl (by kernel_rfl) (by kernel_rfl) (by kernel_rfl) (fun _ _ _ h => h) (Or.inl ⟨by rfl, ?hy40041⟩) hHeld ?hn40041
        case hy40041 => (intro wz hSw; (try dsimp only at hSw); go_simp; first | done | with_reducible rfl)
        try simp only [List.getElem_toArray, List.getElem_cons_zero, List.getElem_cons_succ, Act.put, List.setIfInBounds_toArray, List.set_cons_zero, List.set_cons_succ]
        refine' wpAnyH_take (i := 7) (v := .bool false) rfl (by kernel_rfl) (by kernel_rfl) (by kernel_rfl) (fun _ _ _ h => h) (Or.inl ⟨by rfl, ?hy40042⟩) hHeld ?hn40042
        case hy40042 => (intro wz hSw; have j0 := (hSw.cell (p := ⟨cb, co + i, none⟩) ncb).trans c0; go_simp)
        try simp only [List.getElem_toArray, List.getElem_cons_zero, List.getElem_cons_succ, Act.put, List.setIfInBounds_toArray, List.set_cons_zero, List.set_cons_succ]
        refine' wpAnyH_take (i := 8) (v := .bool false) rfl (by kernel_rfl) (by kernel_rfl) (by kernel_rfl) (fun _ _ _ h => h) (Or.inl ⟨by rfl, ?hy40043⟩) hHeld ?hn40043
        case hy40043 => (intro wz hSw; go_simp; first | done | simp)
        try simp only [List.getElem_toArray, List.getElem_cons_zero, List.getElem_cons_succ, Act.put, List.setIfInBounds_toArray, List.set_cons_zero, List.set_cons_succ]
        refine' wpAnyH_take (i := 9) (v := .bool false) rfl (by kernel_rfl) (by kernel_rfl) (by kernel_rfl) (fun _ _ _ h => h) (Or.inl ⟨by rfl, ?hy40044⟩) hHeld ?hn40044
        case hy40044 => (intro wz hSw; go_simp; first | done | with_reducible rfl)
        try simp only [List.getElem_toArray, List.getElem_cons_zero, List.getElem_cons_succ, Act.put, List.setIfInBounds_toArray, List.set_cons_zero, List.set_cons_succ]
        refine' wpAnyH_take (i := 10) (v := _) rfl (by kernel_rfl) (by kernel_rfl) (by kernel_rfl) (fun _ _ _ h => h) (Or.inl ⟨by rfl, ?hy40045⟩) hHeld ?hn40045
        case hy40045 => (intro wz hSw; (try dsimp only at hSw); go_simp; first | done | with_reducible rfl)
        try simp only [List.getElem_toArray, List.getElem_cons_zero, List.getElem_cons_succ, Act.put, List.setIfInBounds_toArray, List.set_cons_zero, List.set_cons_succ]
        refine' wpAnyH_take (i := 11) (v := _) rfl (by kernel_rfl) (by kernel_rfl) (by kernel_rfl) (fun _ _ _ h => h) (Or.inl ⟨by rfl, ?hy40046⟩) hHeld ?hn40046
        case hy40046 => (intro wz hSw; (try dsimp only at hSw); go_simp; first | done | with_reducible rfl)
        try simp only [List.getElem_toArray, List.getElem_cons_zero, List.getElem_cons_succ, Act.put, List.setIfInBounds_toArray, List.set_cons_zero, List.set_cons_succ]
        refine' wpAnyH_take (i := 12) (v := _) rfl (by kernel_rfl) (by kernel_rfl) (by kernel_rfl) (fun _ _ _ h => h) (Or.inl ⟨by rfl, ?hy40047⟩) hHeld ?hn40047
        case hy40047 => (intro wz hSw; (try dsimp only at hSw); go_simp; first | done | with_reducible rfl)
        try simp only [List.getElem_toArray, List.getElem_cons_zero, List.getElem_cons_succ, Act.put, List.setIfInBounds_toArray, List.set_cons_zero, List.set_cons_succ]
        refine' wpAnyH_take (i := 13) (v := .bool false) rfl (by kernel_rfl) (by kernel_rfl) (by kernel_rfl) (fun _ _ _ h => h) (Or.inl ⟨by rfl, ?hy40048⟩) hHeld ?hn40048
        case hy40048 => (intro wz hSw; have j0 := (hSw.cell (p := ⟨gb, go + i, none⟩) ngb).trans g0; go_simp)
        try simp only [List.getElem_toArray, List.getElem_cons_zero, List.getElem_cons_succ, Act.put, List.setIfInBounds_toArray, List.set_cons_zero, List.set_cons_succ]
        refine' wpAnyH_take (i := 14) (v := _) rfl (by kernel_rfl) (by kernel_rfl) (by kernel_rfl) (fun _ _ _ h => h) (Or.inl ⟨by rfl, ?hy40049⟩) hHeld ?hn40049
        case hy40049 => (intro wz hSw; (try dsimp only at hSw); go_simp; first | done | with_reducible rfl)
        try simp only [List.getElem_toArray, List.getElem_cons_zero, List.getElem_cons_succ, Act.put, List.setIfInBounds_toArray, List.set_cons_zero, List.set_cons_succ]
        refine' wpAnyH_take (i := 15) (v := .bool false) rfl (by kernel_rfl) (by kernel_rfl) (by kernel_rfl) (fun _ _ _ h => h) (Or.inl ⟨by rfl, ?hy40050⟩) hHeld ?hn40050
        case hy40050 => (intro wz hSw; go_simp; first | done | simp)
        try simp only [List.getElem_toArray, List.getElem_cons_zero, List.getElem_cons_succ, Act.put, List.setIfInBounds_toArray, List.set_cons_zero, List.set_cons_succ]
        refine' wpAnyH_take (i := 16) (v := .bool false) rfl (by kernel_rfl) (by kernel_rfl) (by kernel_rfl) (fun _ _ _ h => h) (Or.inl ⟨by rfl, ?hy40051⟩) hHeld ?hn40051
        case hy40051 => (intro wz hSw; go_simp; first | done | with_reducible rfl)
        try simp only [List.getElem_toArray, List.getElem_cons_zero, List.getElem_cons_succ, Act.put, List.setIfInBounds_toArray, List.set_cons_zero, List.set_cons_succ]
        refine wpAnyH_done (by kernel_rfl) ?_ _
        have HB9 : Hid (Below w4.heap.size w4 wr.drew) := HBR.out.drew
        clear hHeld HBR g0 c0
        go_wp2
        exact ⟨⟨i + 1, by omega, by simp, HB9.out⟩, by simp [intOf]; omega⟩
    · have : i = xs.length := by omega
      subst this
      clear hbr
      go_wp2
      go_ret
      exact ⟨rfl, Below.then HBW.out HBR.out HBW.out.size⟩

set_option maxHeartbeats 4000000 in
theorem drawTypeTrusts_any (w : World) (a0 : Option Addr) (len0 cap0 : Nat) (zs : List Int) (h : IsRow .u8 w a0 len0 cap0 zs) : Calls Try.prog 41 #[.slice a0 len0 cap0] w (DkPost w) := by
  have A0 : Below w.heap.size w (w.alloc (.cells #[.slice none 0 0, .slice none 0 0] 26)) := (Below.refl _ _).alloc (Nat.le_refl _) _
  have Z0 := C2.new w (.slice none 0 0) (.slice none 0 0) 26
  have z0 : (w.alloc (.cells #[.slice none 0 0, .slice none 0 0] 26)).heap.size = w.heap.size + 1 := by simp
  generalize hW : w.alloc (.cells #[.slice none 0 0, .slice none 0 0] 26) = w0 at A0 Z0 z0
  have HW : Hid _ := hW
  have C1 : Hid _ := drawTypeKnows_any w0 a0 len0 cap0 zs (isRow_on h A0)
  have HA : Hid (Below w.heap.size w w0) := A0
  have HZ0 : Hid (C2 w0 w.heap.size (.slice none 0 0) (.slice none 0 0)) := Z0
  have HZ : Hid (w0.heap.size = w.heap.size + 1) := z0
  clear h A0 Z0 z0 hW
  go_enter Try.func41, Try.ntmps41
  go_wp2_with fail
  rw [HW.out]
  go_at_call 37; refine Calls.mono C1.out ?_
  rintro e w1 ⟨lv, sv, ls, d, l, k, rfl, hL, hR, ll, cn, hk, hb1⟩
  have z1 : w0.heap.size ≤ w1.heap.size := hb1.size
  have zz := HZ.out
  have Z1 := HZ0.out.same (hb1.block _ (by omega))
  obtain ⟨la, lc, rfl, -⟩ := hL.rep
  obtain ⟨sa, sc, rfl⟩ := hR.slice
  have hset : ∀ b, b ≠ w.heap.size → ((w1.setCell ⟨w.heap.size, 0, none⟩ (.slice la ls.length lc)).setCell ⟨w.heap.size, 1, none⟩ (.slice sa (ln (d + 1) (l : List (Pay × Tr d × Tr d))) sc)).heap[b]? = w1.heap[b]? := fun b hb => (Below.heap_setCell _ _ _ _ hb).trans (Below.heap_setCell _ _ _ _ hb)
  have HF : Hid (LRepP (fun b => w.heap.size ≤ b) ((w1.setCell ⟨w.heap.size, 0, none⟩ (.slice la ls.length lc)).setCell ⟨w.heap.size, 1, none⟩ (.slice sa (ln (d + 1) (l : List (Pay × Tr d × Tr d))) sc)) (.slice la ls.length lc) ls ∧ RepP (fun b => w.heap.size ≤ b) ((w1.setCell ⟨w.heap.size, 0, none⟩ (.slice la ls.length lc)).setCell ⟨w.heap.size, 1, none⟩ (.slice sa (ln (d + 1) (l : List (Pay × Tr d × Tr d))) sc)) (d + 1) (.slice sa (ln (d + 1) (l : List (Pay × Tr d × Tr d))) sc) (l : List (Pay × Tr d × Tr d))) :=
    ⟨hL.frame (fun b p hl => ⟨hset b (by omega), by omega⟩), hR.frame (fun b p hl => ⟨hset b (by omega), by omega⟩)⟩
  have HB3 : Hid (Below w.heap.size w w1) := Below.then HA.out hb1 HA.out.size
  have GG : Hid _ := (C2.set0 (.slice la ls.length lc) Z1).set1 (.slice sa (ln (d + 1) (l : List (Pay × Tr d × Tr d))) sc)
  obtain ⟨⟨y0, y1⟩, u0, u1⟩ := Z1
  clear hL hR hset hb1 HZ0 HA zz C1 HW
  go_wp2
  obtain ⟨⟨q0, q1⟩, -⟩ := GG.out
  exact bodyPost_ret (v := .tuple #[.agg #[.slice la ls.length lc, .slice sa (ln (d + 1) (l : List (Pay × Tr d × Tr d))) sc], .int .i64 k]) (by simp [results, Try.results41, go_sem, q0, q1]) rfl ⟨_, _, ls, d, l, k, rfl, HF.out.1, HF.out.2, ll, cn, hk, (HB3.out.setCell (Nat.le_refl _) _).setCell (Nat.le_refl _) _⟩

set_option maxHeartbeats 8000000 in
set_option maxRecDepth 20000 in
theorem fnTypeTrusts_walk (a0 : Option Addr) (len0 cap0 : Nat) (z0 : List Int) (w : World) (h0 : IsRow .u8 w a0 len0 cap0 z0) :
    Calls Try.prog 10 #[.slice a0 len0 cap0] w fun e w' => e = .returned (.bool true) ∧ Below w.heap.size w w' := by
  by_cases hl : (1048576 : Int) < (len0 : Int)
  · go_enter Try.func10, Try.ntmps10
    go_wp2
    go_ret
    exact ⟨rfl, Below.refl _ _⟩
  have C1 : Hid _ := drawTypeTrusts_any w a0 len0 cap0 z0 h0
  clear h0
  go_enter Try.func10, Try.ntmps10
  go_wp2_with fail
  go_at_call 41; refine Calls.mono C1.out ?_
  rintro e w1 ⟨lv, sv, ls, d, l, k, rfl, hLp, hRp, ll, cn, hk, hb1⟩
  have hL := hLp.rep
  have hR := hRp.rep
  clear hLp hRp
  have A : Below w1.heap.size w1 (w1.alloc (.cells #[lv, sv] 26)) := (Below.refl _ _).alloc (Nat.le_refl _) _
  have C2' : Hid _ := typeTrusts_any k (hL.below A) (hR.below A)
  have G2 := C2.new w1 lv sv 26
  have HLR : Hid (∀ wz, Below w1.heap.size w1 wz → LRep wz lv ls ∧ Rep wz (d + 1) sv (l : List (Pay × Tr d × Tr d))) := (show ∀ wz, _ from fun wz hb => ⟨hL.below hb, hR.below hb⟩)
  have HB1 : Hid (Below w.heap.size w w1) := hb1
  obtain ⟨la, lc, rfl, hll, hlm, hlc⟩ := hL
  obtain ⟨sa, sc, rfl⟩ := hR.slice
  have HLC : Hid _ := hlc
  have HA : Hid (Below w1.heap.size w1 (w1.alloc (.cells #[.slice la ls.length lc, .slice sa (ln (d + 1) (l : List (Pay × Tr d × Tr d))) sc] 26))) := A
  have HG2 : Hid (C2 (w1.alloc (.cells #[.slice la ls.length lc, .slice sa (ln (d + 1) (l : List (Pay × Tr d × Tr d))) sc] 26)) w1.heap.size (.slice la ls.length lc) (.slice sa (ln (d + 1) (l : List (Pay × Tr d × Tr d))) sc)) := G2
  have z2 : (w1.alloc (.cells #[.slice la ls.length lc, .slice sa (ln (d + 1) (l : List (Pay × Tr d × Tr d))) sc] 26)).heap.size = w1.heap.size + 1 := by simp
  have HZ2 : Hid _ := z2
  clear hR hb1 C1 A G2 hlc z2
  obtain ⟨xs, hxs⟩ : ∃ xs, (if progB ls (d + 1) (l : List (Pay × Tr d × Tr d)) then trustL ls k else []) = xs := ⟨_, rfl⟩
  have HX : Hid (∀ i (hi : i < xs.length), ∃ (hi' : i < ls.length), xs[i] = hosB ls[i].2 k ∧ 0 ≤ ls[i].2 ∧ ls[i].2 ≤ 7) := (show ∀ i (hi : i < xs.length), _ by
    intro i hi
    cases hp : progB ls (d + 1) (l : List (Pay × Tr d × Tr d))
    · rw [hp] at hxs; simp at hxs; subst hxs; simp at hi
    · rw [hp] at hxs
      simp only [if_true] at hxs
      subst hxs
      have hi' : i < ls.length := by simpa [trustL] using hi
      have := List.all_eq_true.1 (progB_labs hp) ls[i] (List.getElem_mem hi')
      have ok := okB_iff.1 this
      exact ⟨hi', by simp [trustL], ok.2.1, ok.2.2⟩)
  have lx : xs.length ≤ 8 := by
    rw [← hxs]
    split
    · simp [trustL]; omega
    · simp
  rw [hxs] at C2'
  have HXS : Hid _ := hxs
  clear hxs
  go_wp2_with fail
  go_at_call 42; refine Calls.mono C2'.out ?_
  rintro e w3 ⟨gv, gbs, rfl, hb3, og, -⟩
  obtain ⟨ga, gc, rfl, hgl, hgm, hgc⟩ := og.rep
  have hB13 : Below w1.heap.size w1 w3 := Below.then HA.out hb3 HA.out.size
  have C3' : Hid _ := sTypeTrusts_any k (HLR.out w3 hB13).1 (HLR.out w3 hB13).2 (by omega)
  rw [HXS.out] at C3'
  have G3 := HG2.out.same (hb3.block _ (by have := HZ2.out; omega))
  have HG3 : Hid (C2 w3 w1.heap.size (.slice la ls.length lc) (.slice sa (ln (d + 1) (l : List (Pay × Tr d × Tr d))) sc)) := G3
  have HGC : Hid _ := hgc
  have HB13 : Hid (Below w1.heap.size w1 w3) := hB13
  have z3 : w1.heap.size < w3.heap.size := by have := hb3.size; have := HZ2.out; omega
  obtain ⟨⟨p0, p1⟩, -⟩ := G3
  clear hb3 og hgc hB13 C2' HG2 HA
  go_wp2_with fail
  go_at_call 43; refine Calls.mono C3'.out ?_
  rintro e w4 ⟨cv, cbs, rfl, hb4, oc, -⟩
  obtain ⟨ca, cc, rfl, hcl, hcm, hcc⟩ := oc.rep
  have G4 := HG3.out.same (hb4.block _ z3)
  have HG4 : Hid (C2 w4 w1.heap.size (.slice la ls.length lc) (.slice sa (ln (d + 1) (l : List (Pay × Tr d × Tr d))) sc)) := G4
  have HB14 : Hid (Below w1.heap.size w1 w4) := Below.then HB13.out hb4 HB13.out.size
  have HC : Hid (∀ i (hi : i < xs.length), ∃ gb go cb co lb lf, ga = some ⟨gb, go, none⟩ ∧ ca = some ⟨cb, co, none⟩ ∧ la = some ⟨lb, lf, none⟩ ∧ w4.cell? ⟨gb, go + i, none⟩ = some (.bool xs[i]) ∧ w4.cell? ⟨cb, co + i, none⟩ = some (.bool xs[i]) ∧ ∃ s, hosB s k = xs[i] ∧ 0 ≤ s ∧ s ≤ 7 ∧ i < ls.length ∧ w4.cell? ⟨lb, lf + i * 2 + 1, none⟩ = some (.int .i64 s)) := (show ∀ i (hi : i < xs.length), _ by
    intro i hi
    obtain ⟨hi', e1, s0, s7⟩ := HX.out i hi
    obtain ⟨gb, go, hga, g0⟩ := HGC.out i hi
    obtain ⟨cb, co, hca, c0⟩ := hcc i hi
    obtain ⟨lb, lf, hla, l0, l1⟩ := HLC.out i hi'
    exact ⟨gb, go, cb, co, lb, lf, hga, hca, hla, cell_later hb4 g0, c0, _, e1.symm, s0, s7, hi', cell_later HB14.out l1⟩)
  have HBW : Hid (Below w.heap.size w w4) := Below.then HB1.out HB14.out HB1.out.size
  have z4 : w1.heap.size < w4.heap.size := by have := hb4.size; omega
  have hlm' : (ls.length : Int) ≤ 9223372036854775807 := by omega
  clear hb4 oc hcc C3' HG3 HGC HLC HX HB13 HB14 HLR HXS HB1 p0 p1 G4 HZ2 z3
  go_wp2
  go_loopw [7, 8] (fun j q wr => ∃ i : Nat, i ≤ xs.length ∧ j = .int .i64 i ∧ Below w4.heap.size w4 wr) (fun j _ _ => xs.length - (intOf j).toNat)
  case atStart => exact ⟨0, by omega, rfl, Below.refl _ _⟩
  case round =>
    obtain ⟨i, hi, rfl, hbr⟩ := hrel
    have HBR : Hid (Below w4.heap.size w4 wr) := hbr
    by_cases hlt : i < xs.length
    · obtain ⟨gb, go, cb, co, lb, lf, rfl, rfl, rfl, g0, c0, s, hs, s0, s7, hil, l0⟩ := HC.out i hlt
      replace g0 := cell_later hbr g0
      replace c0 := cell_later hbr c0
      replace l0 := cell_later hbr l0
      obtain ⟨⟨p0, p1⟩, -⟩ := HG4.out.same (hbr.block _ z4)
      have ngb : gb < wr.heap.size := World.block_lt_of_cell? _ _ g0
      have ncb : cb < wr.heap.size := World.block_lt_of_cell? _ _ c0
      have i0' : (0 : Int) ≤ (i : Int) := by omega
      have i1' : (i : Int) < (xs.length : Int) := by omega
      have i2' : (i : Int) < (ls.length : Int) := by omega
      clear hbr
      generalize xs[i] = x at *
      by_cases hk0 : 0 ≤ k
      · by_cases hk3 : k < 3
        · have hx : hasB s k = x := by rw [← hs]; simp [hosB, hk0, hk3]
          clear hs
          go_wp2_with fail
          go_at_call 40; refine (lcHas_any _ _ _ s0 s7 hk0 (by omega)).mono ?_; rintro e w5 ⟨rfl, hw5⟩
          rw [hw5, hx]
          clear hw5 w5 hx p0 p1 l0
          go_wp2_with fail
          refine wp_region_held (S := (fun wz => Below wr.heap.size wr wz)) (by kernel_rfl) ?_
          change wpAnyH _ _ _ _ _ _ _ _ (World.drew _)
          have hHeld := (show Below wr.heap.size wr (World.drew wr) from (Below.refl _ _).drew)
          refine' wpAnyH_take (i := 0) (v := _) rfl (by kernel_rfl) (by kernel_rfl) (by kernel_rfl) (fun _ _ _ h => h) (Or.inl ⟨by rfl, ?hy40052⟩) hHeld ?hn40052
          case hy40052 => (intro wz hSw; (try dsimp only at hSw); go_simp; first | done | with_reducible rfl)
          try simp only [List.getElem_toArray, List.getElem_cons_zero, List.getElem_cons_succ, Act.put, List.setIfInBounds_toArray, List.set_cons_zero, List.set_cons_succ]
          refine' wpAnyH_take (i := 1) (v := _) rfl (by kernel_rfl) (by kernel_rfl) (by kernel_rfl) (fun _ _ _ h => h) (Or.inl ⟨by rfl, ?hy40053⟩) hHeld ?hn40053
          case hy40053 => (intro wz hSw; (try dsimp only at hSw); go_simp; first | done | with_reducible rfl)
          try simp only [List.getElem_toArray, List.getElem_cons_zero, List.getElem_cons_succ, Act.put, List.setIfInBounds_toArray, List.set_cons_zero, List.set_cons_succ]
          refine' wpAnyH_take (i := 2) (v := _) rfl (by kernel_rfl) (by kernel_rfl) (by kernel_rfl) (fun _ _ _ h => h) (Or.inl ⟨by rfl, ?hy40054⟩) hHeld ?hn40054
          case hy40054 => (intro wz hSw; (try dsimp only at hSw); go_simp; first | done | with_reducible rfl)
          try simp only [List.getElem_toArray, List.getElem_cons_zero, List.getElem_cons_succ, Act.put, List.setIfInBounds_toArray, List.set_cons_zero, List.set_cons_succ]
          refine' wpAnyH_take (i := 3) (v := .bool x) rfl (by kernel_rfl) (by kernel_rfl) (by kernel_rfl) (fun _ _ _ h => h) (Or.inl ⟨by rfl, ?hy40055⟩) hHeld ?hn40055
          case hy40055 => (intro wz hSw; have j0 := (hSw.cell (p := ⟨gb, go + i, none⟩) ngb).trans g0; go_simp)
          try simp only [List.getElem_toArray, List.getElem_cons_zero, List.getElem_cons_succ, Act.put, List.setIfInBounds_toArray, List.set_cons_zero, List.set_cons_succ]
          refine' wpAnyH_take (i := 4) (v := _) rfl (by kernel_rfl) (by kernel_rfl) (by kernel_rfl) (fun _ _ _ h => h) (Or.inl ⟨by rfl, ?hy40056⟩) hHeld ?hn40056
          case hy40056 => (intro wz hSw; (try dsimp only at hSw); go_simp; first | done | with_reducible rfl)
          try simp only [List.getElem_toArray, List.getElem_cons_zero, List.getElem_cons_succ, Act.put, List.setIfInBounds_toArray, List.set_cons_zero, List.set_cons_succ]
          refine' wpAnyH_take (i := 5) (v := _) rfl (by kernel_rfl) (by kernel_rfl) (by kernel_rfl) (fun _ _ _ h => h) (Or.inl ⟨by rfl, ?hy40057⟩) hHeld ?hn40057
          case hy40057 => (intro wz hSw; (try dsimp only at hSw); go_simp; first | done | with_reducible rfl)
          try simp only [List.getElem_toArray, List.getElem_cons_zero, List.getElem_cons_succ, Act.put, List.setIfInBounds_toArray, List.set_cons_zero, List.set_cons_succ]
          refine' wpAnyH_take (i := 6) (v := _) rfl (by kernel_rfl) (by kernel_rfl) (by kernel_rfl) (fun _ _ _ h => h) (Or.inl ⟨by rfl, ?hy40058⟩) hHeld ?hn40058
          case hy40058 => (intro wz hSw; (try dsimp only at hSw); go_simp; first | done | with_reducible rfl)
          try simp only [List.getElem_toArray, List.getElem_cons_zero, List.getElem_cons_succ, Act.put, List.setIfInBounds_toArray, List.set_cons_zero, List.set_cons_succ]
          refine' wpAnyH_take (i := 7) (v := .bool x) rfl (by kernel_rfl) (by kernel_rfl) (by kernel_rfl) (fun _ _ _ h => h) (Or.inl ⟨by rfl, ?hy40059⟩) hHeld ?hn40059
          case hy40059 => (intro wz hSw; have j0 := (hSw.cell (p := ⟨cb, co + i, none⟩) ncb).trans c0; go_simp)
          try simp only [List.getElem_toArray, List.getElem_cons_zero, List.getElem_cons_succ, Act.put, List.setIfInBounds_toArray, List.set_cons_zero, List.set_cons_succ]
          refine' wpAnyH_take (i := 8) (v := .bool false) rfl (by kernel_rfl) (by kernel_rfl) (by kernel_rfl) (fun _ _ _ h => h) (Or.inl ⟨by rfl, ?hy40060⟩) hHeld ?hn40060
          case hy40060 => (intro wz hSw; go_simp; first | done | simp)
          try simp only [List.getElem_toArray, List.getElem_cons_zero, List.getElem_cons_succ, Act.put, List.setIfInBounds_toArray, List.set_cons_zero, List.set_cons_succ]
          refine' wpAnyH_take (i := 9) (v := .bool false) rfl (by kernel_rfl) (by kernel_rfl) (by kernel_rfl) (fun _ _ _ h => h) (Or.inl ⟨by rfl, ?hy40061⟩) hHeld ?hn40061
          case hy40061 => (intro wz hSw; go_simp; first | done | with_reducible rfl)
          try simp only [List.getElem_toArray, List.getElem_cons_zero, List.getElem_cons_succ, Act.put, List.setIfInBounds_toArray, List.set_cons_zero, List.set_cons_succ]
          refine' wpAnyH_take (i := 10) (v := _) rfl (by kernel_rfl) (by kernel_rfl) (by kernel_rfl) (fun _ _ _ h => h) (Or.inl ⟨by rfl, ?hy40062⟩) hHeld ?hn40062
          case hy40062 => (intro wz hSw; (try dsimp only at hSw); go_simp; first | done | with_reducible rfl)
          try simp only [List.getElem_toArray, List.getElem_cons_zero, List.getElem_cons_succ, Act.put, List.setIfInBounds_toArray, List.set_cons_zero, List.set_cons_succ]
          refine' wpAnyH_take (i := 11) (v := _) rfl (by kernel_rfl) (by kernel_rfl) (by kernel_rfl) (fun _ _ _ h => h) (Or.inl ⟨by rfl, ?hy40063⟩) hHeld ?hn40063
          case hy40063 => (intro wz hSw; (try dsimp only at hSw); go_simp; first | done | with_reducible rfl)
          try simp only [List.getElem_toArray, List.getElem_cons_zero, List.getElem_cons_succ, Act.put, List.setIfInBounds_toArray, List.set_cons_zero, List.set_cons_succ]
          refine' wpAnyH_take (i := 12) (v := _) rfl (by kernel_rfl) (by kernel_rfl) (by kernel_rfl) (fun _ _ _ h => h) (Or.inl ⟨by rfl, ?hy40064⟩) hHeld ?hn40064
          case hy40064 => (intro wz hSw; (try dsimp only at hSw); go_simp; first | done | with_reducible rfl)
          try simp only [List.getElem_toArray, List.getElem_cons_zero, List.getElem_cons_succ, Act.put, List.setIfInBounds_toArray, List.set_cons_zero, List.set_cons_succ]
          refine' wpAnyH_take (i := 13) (v := .bool x) rfl (by kernel_rfl) (by kernel_rfl) (by kernel_rfl) (fun _ _ _ h => h) (Or.inl ⟨by rfl, ?hy40065⟩) hHeld ?hn40065
          case hy40065 => (intro wz hSw; have j0 := (hSw.cell (p := ⟨gb, go + i, none⟩) ngb).trans g0; go_simp)
          try simp only [List.getElem_toArray, List.getElem_cons_zero, List.getElem_cons_succ, Act.put, List.setIfInBounds_toArray, List.set_cons_zero, List.set_cons_succ]
          refine' wpAnyH_take (i := 14) (v := _) rfl (by kernel_rfl) (by kernel_rfl) (by kernel_rfl) (fun _ _ _ h => h) (Or.inl ⟨by rfl, ?hy40066⟩) hHeld ?hn40066
          case hy40066 => (intro wz hSw; (try dsimp only at hSw); go_simp; first | done | with_reducible rfl)
          try simp only [List.getElem_toArray, List.getElem_cons_zero, List.getElem_cons_succ, Act.put, List.setIfInBounds_toArray, List.set_cons_zero, List.set_cons_succ]
          refine' wpAnyH_take (i := 15) (v := .bool false) rfl (by kernel_rfl) (by kernel_rfl) (by kernel_rfl) (fun _ _ _ h => h) (Or.inl ⟨by rfl, ?hy40067⟩) hHeld ?hn40067
          case hy40067 => (intro wz hSw; go_simp; first | done | simp)
          try simp only [List.getElem_toArray, List.getElem_cons_zero, List.getElem_cons_succ, Act.put, List.setIfInBounds_toArray, List.set_cons_zero, List.set_cons_succ]
          refine' wpAnyH_take (i := 16) (v := .bool false) rfl (by kernel_rfl) (by kernel_rfl) (by kernel_rfl) (fun _ _ _ h => h) (Or.inl ⟨by rfl, ?hy40068⟩) hHeld ?hn40068
          case hy40068 => (intro wz hSw; go_simp; first | done | with_reducible rfl)
          try simp only [List.getElem_toArray, List.getElem_cons_zero, List.getElem_cons_succ, Act.put, List.setIfInBounds_toArray, List.set_cons_zero, List.set_cons_succ]
          refine wpAnyH_done (by kernel_rfl) ?_ _
          have HB9 : Hid (Below w4.heap.size w4 wr.drew) := HBR.out.drew
          clear hHeld HBR g0 c0
          go_wp2
          exact ⟨⟨i + 1, by omega, by simp, HB9.out⟩, by simp [intOf]; omega⟩
        · have hx : x = false := by rw [← hs]; simp [hosB, hk3]
          subst hx
          clear hs
          go_wp2_with fail
          refine wp_region_held (S := (fun wz => Below wr.heap.size wr wz)) (by kernel_rfl) ?_
          change wpAnyH _ _ _ _ _ _ _ _ (World.drew _)
          have hHeld := (show Below wr.heap.size wr (World.drew wr) from (Below.refl _ _).drew)
          refine' wpAnyH_take (i := 0) (v := _) rfl (by kernel_rfl) (by kernel_rfl) (by kernel_rfl) (fun _ _ _ h => h) (Or.inl ⟨by rfl, ?hy40069⟩) hHeld ?hn40069
          case hy40069 => (intro wz hSw; (try dsimp only at hSw); go_simp; first | done | with_reducible rfl)
          try simp only [List.getElem_toArray, List.getElem_cons_zero, List.getElem_cons_succ, Act.put, List.setIfInBounds_toArray, List.set_cons_zero, List.set_cons_succ]
          refine' wpAnyH_take (i := 1) (v := _) rfl (by kernel_rfl) (by kernel_rfl) (by kernel_rfl) (fun _ _ _ h => h) (Or.inl ⟨by rfl, ?hy40070⟩) hHeld ?hn40070
          case hy40070 => (intro wz hSw; (try dsimp only at hSw); go_simp; first | done | with_reducible rfl)
          try simp only [List.getElem_toArray, List.getElem_cons_zero, List.getElem_cons_succ, Act.put, List.setIfInBounds_toArray, List.set_cons_zero, List.set_cons_succ]
          refine' wpAnyH_take (i := 2) (v := _) rfl (by kernel_rfl) (by kernel_rfl) (by kernel_rfl) (fun _ _ _ h => h) (Or.inl ⟨by rfl, ?hy40071⟩) hHeld ?hn40071
          case hy40071 => (intro wz hSw; (try dsimp only at hSw); go_simp; first | done | with_reducible rfl)
          try simp only [List.getElem_toArray, List.getElem_cons_zero, List.getElem_cons_succ, Act.put, List.setIfInBounds_toArray, List.set_cons_zero, List.set_cons_succ]
          refine' wpAnyH_take (i := 3) (v := .bool false) rfl (by kernel_rfl) (by kernel_rfl) (by kernel_rfl) (fun _ _ _ h => h) (Or.inl ⟨by rfl, ?hy40072⟩) hHeld ?hn40072
          case hy40072 => (intro wz hSw; have j0 := (hSw.cell (p := ⟨gb, go + i, none⟩) ngb).trans g0; go_simp)
          try simp only [List.getElem_toArray, List.getElem_cons_zero, List.getElem_cons_succ, Act.put, List.setIfInBounds_toArray, List.set_cons_zero, List.set_cons_succ]
          refine' wpAnyH_take (i := 4) (v := _) rfl (by kernel_rfl) (by kernel_rfl) (by kernel_rfl) (fun _ _ _ h => h) (Or.inl ⟨by rfl, ?hy40073⟩) hHeld ?hn40073
          case hy40073 => (intro wz hSw; (try dsimp only at hSw); go_simp; first | done | with_reducible rfl)
          try simp only [List.getElem_toArray, List.getElem_cons_zero, List.getElem_cons_succ, Act.put, List.setIfInBounds_toArray, List.set_cons_zero, List.set_cons_succ]
          refine' wpAnyH_take (i := 5) (v := _) rfl (by kernel_rfl) (by kernel_rfl) (by kernel_rfl) (fun _ _ _ h => h) (Or.inl ⟨by rfl, ?hy40074⟩) hHeld ?hn40074
          case hy40074 => (intro wz hSw; (try dsimp only at hSw); go_simp; first | done | with_reducible rfl)
          try simp only [List.getElem_toArray, List.getElem_cons_zero, List.getElem_cons_succ, Act.put, List.setIfInBounds_toArray, List.set_cons_zero, List.set_cons_succ]
          refine' wpAnyH_take (i := 6) (v := _) rfl (by kernel_rfl) (by kernel_rfl) (by kernel_rfl) (fun _ _ _ h => h) (Or.inl ⟨by rfl, ?hy40075⟩) hHeld ?hn40075
          case hy40075 => (intro wz hSw; (try dsimp only at hSw); go_simp; first | done | with_reducible rfl)
          try simp only [List.getElem_toArray, List.getElem_cons_zero, List.getElem_cons_succ, Act.put, List.setIfInBounds_toArray, List.set_cons_zero, List.set_cons_succ]
          refine' wpAnyH_take (i := 7) (v := .bool false) rfl (by kernel_rfl) (by kernel_rfl) (by kernel_rfl) (fun _ _ _ h => h) (Or.inl ⟨by rfl, ?hy40076⟩) hHeld ?hn40076
          case hy40076 => (intro wz hSw; have j0 := (hSw.cell (p := ⟨cb, co + i, none⟩) ncb).trans c0; go_simp)
          try simp only [List.getElem_toArray, List.getElem_cons_zero, List.getElem_cons_succ, Act.put, List.setIfInBounds_toArray, List.set_cons_zero, List.set_cons_succ]
          refine' wpAnyH_take (i := 8) (v := .bool false) rfl (by kernel_rfl) (by kernel_rfl) (by kernel_rfl) (fun _ _ _ h => h) (Or.inl ⟨by rfl, ?hy40077⟩) hHeld ?hn40077
          case hy40077 => (intro wz hSw; go_simp; first | done | simp)
          try simp only [List.getElem_toArray, List.getElem_cons_zero, List.getElem_cons_succ, Act.put, List.setIfInBounds_toArray, List.set_cons_zero, List.set_cons_succ]
          refine' wpAnyH_take (i := 9) (v := .bool false) rfl (by kernel_rfl) (by kernel_rfl) (by kernel_rfl) (fun _ _ _ h => h) (Or.inl ⟨by rfl, ?hy40078⟩) hHeld ?hn40078
          case hy40078 => (intro wz hSw; go_simp; first | done | with_reducible rfl)
          try simp only [List.getElem_toArray, List.getElem_cons_zero, List.getElem_cons_succ, Act.put, List.setIfInBounds_toArray, List.set_cons_zero, List.set_cons_succ]
          refine' wpAnyH_take (i := 10) (v := _) rfl (by kernel_rfl) (by kernel_rfl) (by kernel_rfl) (fun _ _ _ h => h) (Or.inl ⟨by rfl, ?hy40079⟩) hHeld ?hn40079
          case hy40079 => (intro wz hSw; (try dsimp only at hSw); go_simp; first | done | with_reducible rfl)
          try simp only [List.getElem_toArray, List.getElem_cons_zero, List.getElem_cons_succ, Act.put, List.setIfInBounds_toArray, List.set_cons_zero, List.set_cons_succ]
          refine' wpAnyH_take (i := 11) (v := _) rfl (by kernel_rfl) (by kernel_rfl) (by kernel_rfl) (fun _ _ _ h => h) (Or.inl ⟨by rfl, ?hy40080⟩) hHeld ?hn40080
          case hy40080 => (intro wz hSw; (try dsimp only at hSw); go_simp; first | done | with_reducible rfl)
          try simp only [List.getElem_toArray, List.getElem_cons_zero, List.getElem_cons_succ, Act.put, List.setIfInBounds_toArray, List.set_cons_zero, List.set_cons_succ]
          refine' wpAnyH_take (i := 12) (v := _) rfl (by kernel_rfl) (by kernel_rfl) (by kernel_rfl) (fun _ _ _ h => h) (Or.inl ⟨by rfl, ?hy40081⟩) hHeld ?hn40081
          case hy40081 => (intro wz hSw; (try dsimp only at hSw); go_simp; first | done | with_reducible rfl)
          try simp only [List.getElem_toArray, List.getElem_cons_zero, List.getElem_cons_succ, Act.put, List.setIfInBounds_toArray, List.set_cons_zero, List.set_cons_succ]
          refine' wpAnyH_take (i := 13) (v := .bool false) rfl (by kernel_rfl) (by kernel_rfl) (by kernel_rfl) (fun _ _ _ h => h) (Or.inl ⟨by rfl, ?hy40082⟩) hHeld ?hn40082
          case hy40082 => (intro wz hSw; have j0 := (hSw.cell (p := ⟨gb, go + i, none⟩) ngb).trans g0; go_simp)
          try simp only [List.getElem_toArray, List.getElem_cons_zero, List.getElem_cons_succ, Act.put, List.setIfInBounds_toArray, List.set_cons_zero, List.set_cons_succ]
          refine' wpAnyH_take (i := 14) (v := _) rfl (by kernel_rfl) (by kernel_rfl) (by kernel_rfl) (fun _ _ _ h => h) (Or.inl ⟨by rfl, ?hy40083⟩) hHeld ?hn40083
          case hy40083 => (intro wz hSw; (try dsimp only at hSw); go_simp; first | done | with_reducible rfl)
          try simp only [List.getElem_toArray, List.getElem_cons_zero, List.getElem_cons_succ, Act.put, List.setIfInBounds_toArray, List.set_cons_zero, List.set_cons_succ]
          refine' wpAnyH_take (i := 15) (v := .bool false) rfl (by kernel_rfl) (by kernel_rfl) (by kernel_rfl) (fun _ _ _ h => h) (Or.inl ⟨by rfl, ?hy40084⟩) hHeld ?hn40084
          case hy40084 => (intro wz hSw; go_simp; first | done | simp)
          try simp only [List.getElem_toArray, List.getElem_cons_zero, List.getElem_cons_succ, Act.put, List.setIfInBounds_toArray, List.set_cons_zero, List.set_cons_succ]
          refine' wpAnyH_take (i := 16) (v := .bool false) rfl (by kernel_rfl) (by kernel_rfl) (by kernel_rfl) (fun _ _ _ h => h) (Or.inl ⟨by rfl, ?hy40085⟩) hHeld ?hn40085
          case hy40085 => (intro wz hSw; go_simp; first | done | with_reducible rfl)
          try simp only [List.getElem_toArray, List.getElem_cons_zero, List.getElem_cons_succ, Act.put, List.setIfInBounds_toArray, List.set_cons_zero, List.set_cons_succ]
          refine wpAnyH_done (by kernel_rfl) ?_ _
          have HB9 : Hid (Below w4.heap.size w4 wr.drew) := HBR.out.drew
          clear hHeld HBR g0 c0
          go_wp2
          exact ⟨⟨i + 1, by omega, by simp, HB9.out⟩, by simp [intOf]; omega⟩
      · have hx : x = false := by rw [← hs]; simp [hosB, hk0]
        subst hx
        clear hs
        go_wp2_with fail
        refine wp_region_held (S := (fun wz => Below wr.heap.size wr wz)) (by kernel_rfl) ?_
        change wpAnyH _ _ _ _ _ _ _ _ (World.drew _)
        have hHeld := (show Below wr.heap.size wr (World.drew wr) from (Below.refl _ _).drew)
        refine' wpAnyH_take (i := 0) (v := _) rfl (by kernel_rfl) (by kernel_rfl) (by kernel_rfl) (fun _ _ _ h => h) (Or.inl ⟨by rfl, ?hy40086⟩) hHeld ?hn40086
        case hy40086 => (intro wz hSw; (try dsimp only at hSw); go_simp; first | done | with_reducible rfl)
        try simp only [List.getElem_toArray, List.getElem_cons_zero, List.getElem_cons_succ, Act.put, List.setIfInBounds_toArray, List.set_cons_zero, List.set_cons_succ]
        refine' wpAnyH_take (i := 1) (v := _) rfl (by kernel_rfl) (by kernel_rfl) (by kernel_rfl) (fun _ _ _ h => h) (Or.inl ⟨by rfl, ?hy40087⟩) hHeld ?hn40087
        case hy40087 => (intro wz hSw; (try dsimp only at hSw); go_simp; first | done | with_reducible rfl)
        try simp only [List.getElem_toArray, List.getElem_cons_zero, List.getElem_cons_succ, Act.put, List.setIfInBounds_toArray, List.set_cons_zero, List.set_cons_succ]
        refine' wpAnyH_take (i := 2) (v := _) rfl (by kernel_rfl) (by kernel_rfl) (by kernel_rfl) (fun _ _ _ h => h) (Or.inl ⟨by rfl, ?hy40088⟩) hHeld ?hn40088
        case hy40088 => (intro wz hSw; (try dsimp only at hSw); go_simp; first | done | with_reducible rfl)
        try simp only [List.getElem_toArray, List.getElem_cons_zero, List.getElem_cons_succ, Act.put, List.setIfInBounds_toArray, List.set_cons_zero, List.set_cons_succ]
        refine' wpAnyH_take (i := 3) (v := .bool false) rfl (by kernel_rfl) (by kernel_rfl) (by kernel_rfl) (fun _ _ _ h => h) (Or.inl ⟨by rfl, ?hy40089⟩) hHeld ?hn40089
        case hy40089 => (intro wz hSw; have j0 := (hSw.cell (p := ⟨gb, go + i, none⟩) ngb).trans g0; go_simp)
        try simp only [List.getElem_toArray, List.getElem_cons_zero, List.getElem_cons_succ, Act.put, List.setIfInBounds_toArray, List.set_cons_zero, List.set_cons_succ]
        refine' wpAnyH_take (i := 4) (v := _) rfl (by kernel_rfl) (by kernel_rfl) (by kernel_rfl) (fun _ _ _ h => h) (Or.inl ⟨by rfl, ?hy40090⟩) hHeld ?hn40090
        case hy40090 => (intro wz hSw; (try dsimp only at hSw); go_simp; first | done | with_reducible rfl)
        try simp only [List.getElem_toArray, List.getElem_cons_zero, List.getElem_cons_succ, Act.put, List.setIfInBounds_toArray, List.set_cons_zero, List.set_cons_succ]
        refine' wpAnyH_take (i := 5) (v := _) rfl (by kernel_rfl) (by kernel_rfl) (by kernel_rfl) (fun _ _ _ h => h) (Or.inl ⟨by rfl, ?hy40091⟩) hHeld ?hn40091
        case hy40091 => (intro wz hSw; (try dsimp only at hSw); go_simp; first | done | with_reducible rfl)
        try simp only [List.getElem_toArray, List.getElem_cons_zero, List.getElem_cons_succ, Act.put, List.setIfInBounds_toArray, List.set_cons_zero, List.set_cons_succ]
        refine' wpAnyH_take (i := 6) (v := _) rfl (by kernel_rfl) (by kernel_rfl) (by kernel_rfl) (fun _ _ _ h => h) (Or.inl ⟨by rfl, ?hy40092⟩) hHeld ?hn40092
        case hy40092 => (intro wz hSw; (try dsimp only at hSw); go_simp; first | done | with_reducible rfl)
        try simp only [List.getElem_toArray, List.getElem_cons_zero, List.getElem_cons_succ, Act.put, List.setIfInBounds_toArray, List.set_cons_zero, List.set_cons_succ]
        refine' wpAnyH_take (i := 7) (v := .bool false) rfl (by kernel_rfl) (by kernel_rfl) (by kernel_rfl) (fun _ _ _ h => h) (Or.inl ⟨by rfl, ?hy40093⟩) hHeld ?hn40093
        case hy40093 => (intro wz hSw; have j0 := (hSw.cell (p := ⟨cb, co + i, none⟩) ncb).trans c0; go_simp)
        try simp only [List.getElem_toArray, List.getElem_cons_zero, List.getElem_cons_succ, Act.put, List.setIfInBounds_toArray, List.set_cons_zero, List.set_cons_succ]
        refine' wpAnyH_take (i := 8) (v := .bool false) rfl (by kernel_rfl) (by kernel_rfl) (by kernel_rfl) (fun _ _ _ h => h) (Or.inl ⟨by rfl, ?hy40094⟩) hHeld ?hn40094
        case hy40094 => (intro wz hSw; go_simp; first | done | simp)
        try simp only [List.getElem_toArray, List.getElem_cons_zero, List.getElem_cons_succ, Act.put, List.setIfInBounds_toArray, List.set_cons_zero, List.set_cons_succ]
        refine' wpAnyH_take (i := 9) (v := .bool false) rfl (by kernel_rfl) (by kernel_rfl) (by kernel_rfl) (fun _ _ _ h => h) (Or.inl ⟨by rfl, ?hy40095⟩) hHeld ?hn40095
        case hy40095 => (intro wz hSw; go_simp; first | done | with_reducible rfl)
        try simp only [List.getElem_toArray, List.getElem_cons_zero, List.getElem_cons_succ, Act.put, List.setIfInBounds_toArray, List.set_cons_zero, List.set_cons_succ]
        refine' wpAnyH_take (i := 10) (v := _) rfl (by kernel_rfl) (by kernel_rfl) (by kernel_rfl) (fun _ _ _ h => h) (Or.inl ⟨by rfl, ?hy40096⟩) hHeld ?hn40096
        case hy40096 => (intro wz hSw; (try dsimp only at hSw); go_simp; first | done | with_reducible rfl)
        try simp only [List.getElem_toArray, List.getElem_cons_zero, List.getElem_cons_succ, Act.put, List.setIfInBounds_toArray, List.set_cons_zero, List.set_cons_succ]
        refine' wpAnyH_take (i := 11) (v := _) rfl (by kernel_rfl) (by kernel_rfl) (by kernel_rfl) (fun _ _ _ h => h) (Or.inl ⟨by rfl, ?hy40097⟩) hHeld ?hn40097
        case hy40097 => (intro wz hSw; (try dsimp only at hSw); go_simp; first | done | with_reducible rfl)
        try simp only [List.getElem_toArray, List.getElem_cons_zero, List.getElem_cons_succ, Act.put, List.setIfInBounds_toArray, List.set_cons_zero, List.set_cons_succ]
        refine' wpAnyH_take (i := 12) (v := _) rfl (by kernel_rfl) (by kernel_rfl) (by kernel_rfl) (fun _ _ _ h => h) (Or.inl ⟨by rfl, ?hy40098⟩) hHeld ?hn40098
        case hy40098 => (intro wz hSw; (try dsimp only at hSw); go_simp; first | done | with_reducible rfl)
        try simp only [List.getElem_toArray, List.getElem_cons_zero, List.getElem_cons_succ, Act.put, List.setIfInBounds_toArray, List.set_cons_zero, List.set_cons_succ]
        refine' wpAnyH_take (i := 13) (v := .bool false) rfl (by kernel_rfl) (by kernel_rfl) (by kernel_rfl) (fun _ _ _ h => h) (Or.inl ⟨by rfl, ?hy40099⟩) hHeld ?hn40099
        case hy40099 => (intro wz hSw; have j0 := (hSw.cell (p := ⟨gb, go + i, none⟩) ngb).trans g0; go_simp)
        try simp only [List.getElem_toArray, List.getElem_cons_zero, List.getElem_cons_succ, Act.put, List.setIfInBounds_toArray, List.set_cons_zero, List.set_cons_succ]
        refine' wpAnyH_take (i := 14) (v := _) rfl (by kernel_rfl) (by kernel_rfl) (by kernel_rfl) (fun _ _ _ h => h) (Or.inl ⟨by rfl, ?hy40100⟩) hHeld ?hn40100
        case hy40100 => (intro wz hSw; (try dsimp only at hSw); go_simp; first | done | with_reducible rfl)
        try simp only [List.getElem_toArray, List.getElem_cons_zero, List.getElem_cons_succ, Act.put, List.setIfInBounds_toArray, List.set_cons_zero, List.set_cons_succ]
        refine' wpAnyH_take (i := 15) (v := .bool false) rfl (by kernel_rfl) (by kernel_rfl) (by kernel_rfl) (fun _ _ _ h => h) (Or.inl ⟨by rfl, ?hy40101⟩) hHeld ?hn40101
        case hy40101 => (intro wz hSw; go_simp; first | done | simp)
        try simp only [List.getElem_toArray, List.getElem_cons_zero, List.getElem_cons_succ, Act.put, List.setIfInBounds_toArray, List.set_cons_zero, List.set_cons_succ]
        refine' wpAnyH_take (i := 16) (v := .bool false) rfl (by kernel_rfl) (by kernel_rfl) (by kernel_rfl) (fun _ _ _ h => h) (Or.inl ⟨by rfl, ?hy40102⟩) hHeld ?hn40102
        case hy40102 => (intro wz hSw; go_simp; first | done | with_reducible rfl)
        try simp only [List.getElem_toArray, List.getElem_cons_zero, List.getElem_cons_succ, Act.put, List.setIfInBounds_toArray, List.set_cons_zero, List.set_cons_succ]
        refine wpAnyH_done (by kernel_rfl) ?_ _
        have HB9 : Hid (Below w4.heap.size w4 wr.drew) := HBR.out.drew
        clear hHeld HBR g0 c0
        go_wp2
        exact ⟨⟨i + 1, by omega, by simp, HB9.out⟩, by simp [intOf]; omega⟩
    · have : i = xs.length := by omega
      subst this
      clear hbr
      go_wp2
      go_ret
      exact ⟨rfl, Below.then HBW.out HBR.out HBW.out.size⟩

end Go.Proofs.Ytpcmhkcahajdgaa
