/- A program has as many steps as its own, with all in them: the law, walked. -/
import Derived.Test.YtpcmhkcahajdgaaAnx
import Derived.Test.YtpcmhkcahajdgaaImp
namespace Go.Proofs.Ytpcmhkcahajdgaa
open Go.RowKit
set_option linter.unusedSimpArgs false
set_option linter.unusedVariables false
attribute [local go_sem ↓] Go.wp_at_zero Go.wp_at_succ
attribute [local go_sem] World.cell?_alloc_some

theorem isRow_onS {k : IntKind} {w w' : World} {a : Option Addr} {len cap : Nat} {zs : List Int} (h : IsRow k w a len cap zs) (hb : Below w.heap.size w w') : IsRow k w' a len cap zs := by
  rcases h with h | ⟨x, h0, h1, h2, h3, h4, h5⟩
  · exact .inl h
  · exact .inr ⟨x, h0, h1, h2, h3, fun i hi => cell_later hb (h4 i hi), h5⟩
theorem stB_mono {n : Int} : ∀ (d : Nat) (T : Tr d) (deep deep' : Int), deep ≤ deep' → stB n d deep T = true → stB n d deep' T = true
  | 0, _, _, _, _, _ => rfl
  | d + 1, (l : List (Pay × Tr d × Tr d)), deep, deep', hd, h => by
    have h' : (l.all fun x => decide (1 ≤ deep) && payB n x.1 (decide (ln d x.2.1 + ln d x.2.2 = 0)) && (stB n d (deep - 1) x.2.1 && stB n d (deep - 1) x.2.2)) = true := h
    show (l.all fun x => decide (1 ≤ deep') && payB n x.1 (decide (ln d x.2.1 + ln d x.2.2 = 0)) && (stB n d (deep' - 1) x.2.1 && stB n d (deep' - 1) x.2.2)) = true
    refine List.all_eq_true.2 fun x hx => ?_
    have := List.all_eq_true.1 h' x hx
    simp only [Bool.and_eq_true_iff, decide_eq_true_eq] at this ⊢
    exact ⟨⟨by omega, this.1.2⟩, stB_mono d _ _ _ (by omega) this.2.1, stB_mono d _ _ _ (by omega) this.2.2⟩
theorem progB_in {ls : List (Int × Int)} {d : Nat} {l : List (Pay × Tr d × Tr d)} (h : progB ls (d + 1) (l : List (Pay × Tr d × Tr d)) = true) (i : Nat) (hi : i < l.length) : progB ls d l[i].2.1 = true ∧ progB ls d l[i].2.2 = true := by
  have hst := progB_st h
  have hcn := progB_cnt h
  have q1 := cnt_take l i hi
  have q2 := cnt_take_le l (i + 1)
  have hs' : (l.all fun x => decide ((1 : Int) ≤ 3) && payB ls.length x.1 (decide (ln d x.2.1 + ln d x.2.2 = 0)) && (stB ls.length d (3 - 1) x.2.1 && stB ls.length d (3 - 1) x.2.2)) = true := hst
  have hx := List.all_eq_true.1 hs' l[i] (List.getElem_mem hi)
  simp only [Bool.and_eq_true_iff] at hx
  have l4 := progB_len h
  have lb := progB_labs h
  unfold progB
  simp only [Bool.and_eq_true_iff, decide_eq_true_eq]
  exact ⟨⟨l4, lb, stB_mono d _ _ _ (by omega) hx.2.1, by omega⟩, l4, lb, stB_mono d _ _ _ (by omega) hx.2.2, by omega⟩
/-- What is drawn: a program. -/
def DpP (w : World) (e : Ending) (w' : World) : Prop := ∃ (lv sv : Value) (ls : List (Int × Int)) (d : Nat) (l : List (Pay × Tr d × Tr d)), e = .returned (.agg #[lv, sv]) ∧ LRepP (fun b => w.heap.size ≤ b) w' lv ls ∧ RepP (fun b => w.heap.size ≤ b) w' (d + 1) sv (l : List (Pay × Tr d × Tr d)) ∧ (1 ≤ ls.length ∧ ls.length ≤ 8) ∧ cnt (d + 1) (l : List (Pay × Tr d × Tr d)) ≤ 400 ∧ Below w.heap.size w w'

set_option maxHeartbeats 4000000 in
theorem drawProgSize_any (w : World) (a0 : Option Addr) (len0 cap0 : Nat) (zs : List Int) (h : IsRow .u8 w a0 len0 cap0 zs) : Calls Try.prog 22 #[.slice a0 len0 cap0] w (DpP w) := by
  have A0 : Below w.heap.size w (w.alloc (.cells #[.slice none 0 0, .slice none 0 0] 26)) := (Below.refl _ _).alloc (Nat.le_refl _) _
  have C1 : Hid _ := l6Open_any _ a0 len0 cap0 zs (isRow_onS h A0)
  have Z0 := C2.new w (.slice none 0 0) (.slice none 0 0) 26
  have s0 : (w.alloc (.cells #[.slice none 0 0, .slice none 0 0] 26)).heap.size = w.heap.size + 1 := by simp
  have HZ0 : Hid (C2 (w.alloc (.cells #[.slice none 0 0, .slice none 0 0] 26)) w.heap.size (.slice none 0 0) (.slice none 0 0)) := Z0
  have HA0 : Hid (Below w.heap.size w (w.alloc (.cells #[.slice none 0 0, .slice none 0 0] 26))) := A0
  clear A0 Z0 h
  go_enter Try.func22, Try.ntmps22
  go_wp2_with fail
  go_at_call 63; refine Calls.mono C1.out ?_
  rintro e w1 ⟨rfl, rd1, sz1, hb1⟩
  have B1 : Below w.heap.size w w1 := Below.then HA0.out hb1 (by omega)
  have Z1 : C2 w1 w.heap.size (.slice none 0 0) (.slice none 0 0) := HZ0.out.same (hb1.block _ (by omega))
  rw [s0] at rd1 sz1 ⊢
  have P1 : Hid _ := l71Any_any w1 (w.heap.size + 1) 0 ⟨0, by omega, rd1⟩ (by omega)
  have HB1 : Hid (Below w.heap.size w w1) := B1
  have HZ1 : Hid (C2 w1 w.heap.size (.slice none 0 0) (.slice none 0 0)) := Z1
  clear hb1 B1 Z1 HZ0 HA0 C1 rd1
  go_wp2_with fail
  go_at_call 71; refine Calls.mono P1.out ?_
  rintro e w3 ⟨lv, sv, ls, d, l, rfl, hL, hR, ll, cn, rd2, ot2⟩
  have Z3 : C2 w3 w.heap.size (.slice none 0 0) (.slice none 0 0) := HZ1.out.oth ot2 (by omega)
  have HB3 : Hid (Below w.heap.size w w3) := HB1.out.trans (ot2.below (by omega) (by omega))
  obtain ⟨la, lc, rfl, -⟩ := hL.rep
  obtain ⟨sa, sc, rfl⟩ := hR.slice
  have hset : ∀ b, b ≠ w.heap.size → ((w3.setCell ⟨w.heap.size, 0, none⟩ (.slice la ls.length lc)).setCell ⟨w.heap.size, 1, none⟩ (.slice sa (ln (d + 1) (l : List (Pay × Tr d × Tr d))) sc)).heap[b]? = w3.heap[b]? := fun b hb => (Below.heap_setCell _ _ _ _ hb).trans (Below.heap_setCell _ _ _ _ hb)
  have HF : Hid (LRepP (fun b => w.heap.size ≤ b) ((w3.setCell ⟨w.heap.size, 0, none⟩ (.slice la ls.length lc)).setCell ⟨w.heap.size, 1, none⟩ (.slice sa (ln (d + 1) (l : List (Pay × Tr d × Tr d))) sc)) (.slice la ls.length lc) ls ∧ RepP (fun b => w.heap.size ≤ b) ((w3.setCell ⟨w.heap.size, 0, none⟩ (.slice la ls.length lc)).setCell ⟨w.heap.size, 1, none⟩ (.slice sa (ln (d + 1) (l : List (Pay × Tr d × Tr d))) sc)) (d + 1) (.slice sa (ln (d + 1) (l : List (Pay × Tr d × Tr d))) sc) (l : List (Pay × Tr d × Tr d))) :=
    ⟨hL.frame (fun b p hl => ⟨hset b (by omega), by omega⟩), hR.frame (fun b p hl => ⟨hset b (by omega), by omega⟩)⟩
  have GG : Hid _ := (C2.set0 (.slice la ls.length lc) Z3).set1 (.slice sa (ln (d + 1) (l : List (Pay × Tr d × Tr d))) sc)
  obtain ⟨⟨z0, z1⟩, u0, u1⟩ := Z3
  clear hL hR rd2 ot2 hset HZ1 HB1 P1
  go_wp2
  obtain ⟨⟨q0, q1⟩, -⟩ := GG.out
  exact bodyPost_ret (v := .agg #[.slice la ls.length lc, .slice sa (ln (d + 1) (l : List (Pay × Tr d × Tr d))) sc]) (by simp [results, Try.results22, go_sem, q0, q1]) rfl ⟨_, _, ls, d, l, rfl, HF.out.1, HF.out.2, ll, cn, (HB3.out.setCell (Nat.le_refl _) _).setCell (Nat.le_refl _) _⟩

set_option maxHeartbeats 8000000 in
set_option maxRecDepth 20000 in
theorem fnProgSize_walk (a0 : Option Addr) (len0 cap0 : Nat) (z0 : List Int) (w : World) (h0 : IsRow .u8 w a0 len0 cap0 z0) :
    Calls Try.prog 4 #[.slice a0 len0 cap0] w fun e w' => e = .returned (.bool true) ∧ Below w.heap.size w w' := by
  by_cases hl : (1048576 : Int) < (len0 : Int)
  · go_enter Try.func4, Try.ntmps4
    go_wp2
    go_ret
    exact ⟨rfl, Below.refl _ _⟩
  have C1 : Hid _ := drawProgSize_any w a0 len0 cap0 z0 h0
  clear h0
  go_enter Try.func4, Try.ntmps4
  go_wp2_with fail
  go_at_call 22; refine Calls.mono C1.out ?_
  rintro e w1 ⟨lv, sv, ls, d, l, rfl, hLp, hRp, ll, cn, hb1⟩
  have hL := hLp.rep
  have hR := hRp.rep
  have A : Below w1.heap.size w1 (w1.alloc (.cells #[lv, sv] 26)) := (Below.refl _ _).alloc (Nat.le_refl _) _
  have G2 := C2.new w1 lv sv 26
  have HLR : Hid (∀ wz, Below w1.heap.size w1 wz → LRep wz lv ls ∧ Rep wz (d + 1) sv (l : List (Pay × Tr d × Tr d))) := (show ∀ wz, _ from fun wz hb => ⟨hL.below hb, hR.below hb⟩)
  have C2' : Hid _ := progSize_any (HLR.out _ A).1 (HLR.out _ A).2
  have HB1 : Hid (Below w.heap.size w w1) := hb1
  obtain ⟨la, lc, rfl, hll, hlm, -⟩ := hL
  obtain ⟨sa, sc, hsv, hsl, hsm, hcell⟩ := hR
  subst hsv
  have HCL : Hid _ := hcell
  generalize hw2 : w1.alloc (.cells #[.slice la ls.length lc, .slice sa l.length sc] 26) = w2 at A G2 C2'
  have HW2 : Hid _ := hw2
  have HA : Hid (Below w1.heap.size w1 w2) := A
  have HG2 : Hid (C2 w2 w1.heap.size (.slice la ls.length lc) (.slice sa l.length sc)) := G2
  have hlm' : (l.length : Int) ≤ 9223372036854775807 := by unfold maxLen at hsm; omega
  clear hLp hRp hb1 C1 A G2 hw2 hcell
  go_wp2_with fail
  rw [HW2.out]
  go_at_call 23; refine Calls.mono C2'.out ?_
  rintro e w3 ⟨rfl, hb3⟩
  have HB13 : Hid (Below w1.heap.size w1 w3) := Below.then HA.out hb3 HA.out.size
  have z2 : w1.heap.size < w2.heap.size := World.block_lt_of_cell? _ _ HG2.out.1.1
  have G3 := HG2.out.same (hb3.block _ z2)
  have HG3 : Hid (C2 w3 w1.heap.size (.slice la ls.length lc) (.slice sa l.length sc)) := G3
  have z3 : w1.heap.size < w3.heap.size := by have := hb3.size; omega
  have C3' : Hid _ := sProgSize_any (HLR.out w3 HB13.out).1 (HLR.out w3 HB13.out).2 (by omega)
  obtain ⟨⟨p0, p1⟩, -⟩ := G3
  clear hb3 C2' HG2 HA HW2 z2
  cases hp : progB ls (d + 1) (l : List (Pay × Tr d × Tr d))
  · rw [hp] at C3'
    simp only [Bool.false_eq_true, if_false] at C3' ⊢
    go_wp2_with fail
    go_at_call 24; refine Calls.mono C3'.out ?_
    rintro e w4 ⟨rfl, hb4⟩
    have HB14 : Hid (Below w1.heap.size w1 w4) := Below.then HB13.out hb4 HB13.out.size
    replace p0 := cell_later hb4 p0
    replace p1 := cell_later hb4 p1
    have C4' : Hid _ := sProgSize_any (HLR.out w4 HB14.out).1 (HLR.out w4 HB14.out).2 (by omega)
    rw [hp] at C4'
    simp only [Bool.false_eq_true, if_false] at C4'
    clear hb4 C3'
    go_wp2_with fail
    go_at_call 24; refine Calls.mono C4'.out ?_
    rintro e w5 ⟨rfl, hb5⟩
    have HB15 : Hid (Below w1.heap.size w1 w5) := Below.then HB14.out hb5 HB14.out.size
    clear hb5 C4'
    go_wp2
    go_ret
    exact ⟨rfl, Below.then HB1.out HB15.out HB1.out.size⟩
  · rw [hp] at C3'
    simp only [if_true] at C3' ⊢
    have hc8 := progB_cnt hp
    obtain ⟨N, hN⟩ : ∃ N, cnt (d + 1) (l : List (Pay × Tr d × Tr d)) = N := ⟨_, rfl⟩
    have HN : Hid _ := hN
    rw [hN] at C3' hc8 ⊢
    clear hN
    have hN0 : ¬ ((N : Int) < 0) := by omega
    have hN8 : (N : Int) ≤ 8 := by omega
    go_wp2_with fail
    go_at_call 24; refine Calls.mono C3'.out ?_
    rintro e w4 ⟨rfl, hb4⟩
    have HB14 : Hid (Below w1.heap.size w1 w4) := Below.then HB13.out hb4 HB13.out.size
    have G4 := HG3.out.same (hb4.block _ z3)
    have HG4 : Hid (C2 w4 w1.heap.size (.slice la ls.length lc) (.slice sa l.length sc)) := G4
    have z4 : w1.heap.size < w4.heap.size := by have := hb4.size; omega
    clear hb4 C3' HG3 HB13 p0 p1 z3 G4
    go_wp2
    go_loopw [5, 6] (fun o j wr => ∃ i : Nat, i ≤ l.length ∧ j = .int .i64 i ∧ o = .int .i64 (cnt (d + 1) (l.take i : List (Pay × Tr d × Tr d)) : Nat) ∧ Below w4.heap.size w4 wr) (fun _ j _ => l.length - (intOf j).toNat)
    case atStart => exact ⟨0, by omega, rfl, rfl, Below.refl _ _⟩
    case round =>
      obtain ⟨i, hi, rfl, rfl, hbr⟩ := hrel
      have HBR : Hid (Below w4.heap.size w4 wr) := hbr
      have HB1r : Hid (Below w1.heap.size w1 wr) := Below.then HB14.out hbr HB14.out.size
      obtain ⟨⟨p0, p1⟩, -⟩ := HG4.out.same (hbr.block _ z4)
      have n1 : w1.heap.size < wr.heap.size := by have := hbr.size; omega
      clear hbr
      by_cases hlt : i < l.length
      · obtain ⟨b, off, t, e, rfl, hS, r1, r2⟩ := HCL.out i hlt
        obtain ⟨hp1, hp2⟩ := progB_in hp i hlt
        have q1 := cnt_take l i hlt
        have q2 := cnt_take_le l (i + 1)
        have hNN := HN.out
        obtain ⟨ta, tc, rfl⟩ := r1.slice
        obtain ⟨ea, ec, rfl⟩ := r2.slice
        obtain ⟨-, -, -, -, -, -, k6, k7⟩ := hS.on (w' := wr) (fun a v h => cell_later HB1r.out h)
        have HR1 : Hid _ := r1.below HB1r.out
        have HR2 : Hid _ := r2.below HB1r.out
        have HLr : Hid _ := (HLR.out wr HB1r.out).1
        have nb : b < wr.heap.size := World.block_lt_of_cell? _ _ k6
        have HQ : Hid (cnt (d + 1) (l.take (i + 1) : List (Pay × Tr d × Tr d)) = cnt (d + 1) (l.take i : List (Pay × Tr d × Tr d)) + 1 + cnt d l[i].2.1 + cnt d l[i].2.2) := q1
        generalize cnt (d + 1) (l.take i : List (Pay × Tr d × Tr d)) = A at *
        generalize l[i].2.1 = T1 at *
        generalize l[i].2.2 = T2 at *
        have bA : (A : Int) + 1 + cnt d T1 + cnt d T2 ≤ 8 := by omega
        have v1 := w64 ((A : Int) + 1) (by omega)
        have v2 := w64 ((A : Int) + 1 + cnt d T1) (by omega)
        have v3 := w64 ((A : Int) + 1 + cnt d T1 + cnt d T2) (by omega)
        have i0' : (0 : Int) ≤ (i : Int) := by omega
        have i1' : (i : Int) < (l.length : Int) := by omega
        clear q1 q2 r1 r2 hS hNN
        go_wp2_with fail
        refine wp_region_held (S := (fun wz => Below wr.heap.size wr wz)) (by kernel_rfl) ?_
        change wpAnyH _ _ _ _ _ _ _ _ (World.drew _)
        have hHeld := (show Below wr.heap.size wr (World.drew wr) from (Below.refl _ _).drew)
        refine' wpAnyH_take (i := 0) (v := _) rfl (by kernel_rfl) (by kernel_rfl) (by kernel_rfl) (fun _ _ _ h => h) (Or.inl ⟨by rfl, ?hy60001⟩) hHeld ?hn60001
        case hy60001 => (intro wz hSw; (try dsimp only at hSw); go_simp; first | done | with_reducible rfl)
        try simp only [List.getElem_toArray, List.getElem_cons_zero, List.getElem_cons_succ, Act.put, List.setIfInBounds_toArray, List.set_cons_zero, List.set_cons_succ]
        refine' wpAnyH_take (i := 1) (v := _) rfl (by kernel_rfl) (by kernel_rfl) (by kernel_rfl) (fun _ _ _ h => h) (Or.inl ⟨by rfl, ?hy60002⟩) hHeld ?hn60002
        case hy60002 => (intro wz hSw; (try dsimp only at hSw); go_simp; first | done | with_reducible rfl)
        try simp only [List.getElem_toArray, List.getElem_cons_zero, List.getElem_cons_succ, Act.put, List.setIfInBounds_toArray, List.set_cons_zero, List.set_cons_succ]
        refine' wpAnyH_take (i := 2) (v := _) rfl (by kernel_rfl) (by kernel_rfl) (by kernel_rfl) (fun _ _ _ h => h) (Or.inl ⟨by rfl, ?hy60003⟩) hHeld ?hn60003
        case hy60003 => (intro wz hSw; (try dsimp only at hSw); go_simp; first | done | with_reducible rfl)
        try simp only [List.getElem_toArray, List.getElem_cons_zero, List.getElem_cons_succ, Act.put, List.setIfInBounds_toArray, List.set_cons_zero, List.set_cons_succ]
        refine' wpAnyH_take (i := 3) (v := .slice la ls.length lc) rfl (by kernel_rfl) (by kernel_rfl) (by kernel_rfl) (fun _ _ _ h => h) (Or.inl ⟨by rfl, ?hy60004⟩) hHeld ?hn60004
        case hy60004 => (intro wz hSw; have j0 := (hSw.cell (p := ⟨w1.heap.size, 0, none⟩) n1).trans p0; go_simp)
        try simp only [List.getElem_toArray, List.getElem_cons_zero, List.getElem_cons_succ, Act.put, List.setIfInBounds_toArray, List.set_cons_zero, List.set_cons_succ]
        refine' wpAnyH_take (i := 4) (v := _) rfl (by kernel_rfl) (by kernel_rfl) (by kernel_rfl) (fun _ _ _ h => h) (Or.inl ⟨by rfl, ?hy60005⟩) hHeld ?hn60005
        case hy60005 => (intro wz hSw; (try dsimp only at hSw); go_simp; first | done | with_reducible rfl)
        try simp only [List.getElem_toArray, List.getElem_cons_zero, List.getElem_cons_succ, Act.put, List.setIfInBounds_toArray, List.set_cons_zero, List.set_cons_succ]
        refine' wpAnyH_take (i := 5) (v := .slice (some ⟨b, off, none⟩) l.length sc) rfl (by kernel_rfl) (by kernel_rfl) (by kernel_rfl) (fun _ _ _ h => h) (Or.inl ⟨by rfl, ?hy60006⟩) hHeld ?hn60006
        case hy60006 => (intro wz hSw; have j1 := (hSw.cell (p := ⟨w1.heap.size, 1, none⟩) n1).trans p1; go_simp)
        try simp only [List.getElem_toArray, List.getElem_cons_zero, List.getElem_cons_succ, Act.put, List.setIfInBounds_toArray, List.set_cons_zero, List.set_cons_succ]
        refine' wpAnyH_take (i := 6) (v := _) rfl (by kernel_rfl) (by kernel_rfl) (by kernel_rfl) (fun _ _ _ h => h) (Or.inl ⟨by rfl, ?hy60007⟩) hHeld ?hn60007
        case hy60007 => (intro wz hSw; (try dsimp only at hSw); go_simp; first | done | with_reducible rfl)
        try simp only [List.getElem_toArray, List.getElem_cons_zero, List.getElem_cons_succ, Act.put, List.setIfInBounds_toArray, List.set_cons_zero, List.set_cons_succ]
        refine' wpAnyH_take (i := 7) (v := _) rfl (by kernel_rfl) (by kernel_rfl) (by kernel_rfl) (fun _ _ _ h => h) (Or.inl ⟨by rfl, ?hy60008⟩) hHeld ?hn60008
        case hy60008 => (intro wz hSw; (try dsimp only at hSw); go_simp; first | done | with_reducible rfl)
        try simp only [List.getElem_toArray, List.getElem_cons_zero, List.getElem_cons_succ, Act.put, List.setIfInBounds_toArray, List.set_cons_zero, List.set_cons_succ]
        refine' wpAnyH_take (i := 8) (v := _) rfl (by kernel_rfl) (by kernel_rfl) (by kernel_rfl) (fun _ _ _ h => h) (Or.inl ⟨by rfl, ?hy60009⟩) hHeld ?hn60009
        case hy60009 => (intro wz hSw; (try dsimp only at hSw); go_simp; first | done | with_reducible rfl)
        try simp only [List.getElem_toArray, List.getElem_cons_zero, List.getElem_cons_succ, Act.put, List.setIfInBounds_toArray, List.set_cons_zero, List.set_cons_succ]
        refine' wpAnyH_take (i := 9) (v := .slice ta (ln d T1) tc) rfl (by kernel_rfl) (by kernel_rfl) (by kernel_rfl) (fun _ _ _ h => h) (Or.inl ⟨by rfl, ?hy60010⟩) hHeld ?hn60010
        case hy60010 => (intro wz hSw; have j0 := (hSw.cell (p := ⟨b, off + i * 8 + 6, none⟩) nb).trans k6; go_simp)
        try simp only [List.getElem_toArray, List.getElem_cons_zero, List.getElem_cons_succ, Act.put, List.setIfInBounds_toArray, List.set_cons_zero, List.set_cons_succ]
        refine' wpAnyH_take (i := 10) (v := _) rfl (by kernel_rfl) (by kernel_rfl) (by kernel_rfl) (fun _ _ _ h => h) (Or.inl ⟨by rfl, ?hy60011⟩) hHeld ?hn60011
        case hy60011 => (intro wz hSw; (try dsimp only at hSw); go_simp; first | done | with_reducible rfl)
        try simp only [List.getElem_toArray, List.getElem_cons_zero, List.getElem_cons_succ, Act.put, List.setIfInBounds_toArray, List.set_cons_zero, List.set_cons_succ]
        refine' wpAnyH_take (i := 13) (v := _) rfl (by kernel_rfl) (by kernel_rfl) (by kernel_rfl) (fun _ _ _ h => h) (Or.inl ⟨by rfl, ?hy60012⟩) hHeld ?hn60012
        case hy60012 => (intro wz hSw; (try dsimp only at hSw); go_simp; first | done | with_reducible rfl)
        try simp only [List.getElem_toArray, List.getElem_cons_zero, List.getElem_cons_succ, Act.put, List.setIfInBounds_toArray, List.set_cons_zero, List.set_cons_succ]
        refine' wpAnyH_take (i := 14) (v := .slice la ls.length lc) rfl (by kernel_rfl) (by kernel_rfl) (by kernel_rfl) (fun _ _ _ h => h) (Or.inl ⟨by rfl, ?hy60013⟩) hHeld ?hn60013
        case hy60013 => (intro wz hSw; have j0 := (hSw.cell (p := ⟨w1.heap.size, 0, none⟩) n1).trans p0; go_simp)
        try simp only [List.getElem_toArray, List.getElem_cons_zero, List.getElem_cons_succ, Act.put, List.setIfInBounds_toArray, List.set_cons_zero, List.set_cons_succ]
        refine' wpAnyH_take (i := 15) (v := _) rfl (by kernel_rfl) (by kernel_rfl) (by kernel_rfl) (fun _ _ _ h => h) (Or.inl ⟨by rfl, ?hy60014⟩) hHeld ?hn60014
        case hy60014 => (intro wz hSw; (try dsimp only at hSw); go_simp; first | done | with_reducible rfl)
        try simp only [List.getElem_toArray, List.getElem_cons_zero, List.getElem_cons_succ, Act.put, List.setIfInBounds_toArray, List.set_cons_zero, List.set_cons_succ]
        refine' wpAnyH_take (i := 16) (v := .slice (some ⟨b, off, none⟩) l.length sc) rfl (by kernel_rfl) (by kernel_rfl) (by kernel_rfl) (fun _ _ _ h => h) (Or.inl ⟨by rfl, ?hy60015⟩) hHeld ?hn60015
        case hy60015 => (intro wz hSw; have j1 := (hSw.cell (p := ⟨w1.heap.size, 1, none⟩) n1).trans p1; go_simp)
        try simp only [List.getElem_toArray, List.getElem_cons_zero, List.getElem_cons_succ, Act.put, List.setIfInBounds_toArray, List.set_cons_zero, List.set_cons_succ]
        refine' wpAnyH_take (i := 17) (v := _) rfl (by kernel_rfl) (by kernel_rfl) (by kernel_rfl) (fun _ _ _ h => h) (Or.inl ⟨by rfl, ?hy60016⟩) hHeld ?hn60016
        case hy60016 => (intro wz hSw; (try dsimp only at hSw); go_simp; first | done | with_reducible rfl)
        try simp only [List.getElem_toArray, List.getElem_cons_zero, List.getElem_cons_succ, Act.put, List.setIfInBounds_toArray, List.set_cons_zero, List.set_cons_succ]
        refine' wpAnyH_take (i := 18) (v := _) rfl (by kernel_rfl) (by kernel_rfl) (by kernel_rfl) (fun _ _ _ h => h) (Or.inl ⟨by rfl, ?hy60017⟩) hHeld ?hn60017
        case hy60017 => (intro wz hSw; (try dsimp only at hSw); go_simp; first | done | with_reducible rfl)
        try simp only [List.getElem_toArray, List.getElem_cons_zero, List.getElem_cons_succ, Act.put, List.setIfInBounds_toArray, List.set_cons_zero, List.set_cons_succ]
        refine' wpAnyH_take (i := 19) (v := _) rfl (by kernel_rfl) (by kernel_rfl) (by kernel_rfl) (fun _ _ _ h => h) (Or.inl ⟨by rfl, ?hy60018⟩) hHeld ?hn60018
        case hy60018 => (intro wz hSw; (try dsimp only at hSw); go_simp; first | done | with_reducible rfl)
        try simp only [List.getElem_toArray, List.getElem_cons_zero, List.getElem_cons_succ, Act.put, List.setIfInBounds_toArray, List.set_cons_zero, List.set_cons_succ]
        refine' wpAnyH_take (i := 20) (v := .slice ea (ln d T2) ec) rfl (by kernel_rfl) (by kernel_rfl) (by kernel_rfl) (fun _ _ _ h => h) (Or.inl ⟨by rfl, ?hy60019⟩) hHeld ?hn60019
        case hy60019 => (intro wz hSw; have j0 := (hSw.cell (p := ⟨b, off + i * 8 + 7, none⟩) nb).trans k7; go_simp)
        try simp only [List.getElem_toArray, List.getElem_cons_zero, List.getElem_cons_succ, Act.put, List.setIfInBounds_toArray, List.set_cons_zero, List.set_cons_succ]
        refine' wpAnyH_take (i := 21) (v := _) rfl (by kernel_rfl) (by kernel_rfl) (by kernel_rfl) (fun _ _ _ h => h) (Or.inl ⟨by rfl, ?hy60020⟩) hHeld ?hn60020
        case hy60020 => (intro wz hSw; (try dsimp only at hSw); go_simp; first | done | with_reducible rfl)
        try simp only [List.getElem_toArray, List.getElem_cons_zero, List.getElem_cons_succ, Act.put, List.setIfInBounds_toArray, List.set_cons_zero, List.set_cons_succ]
        refine wpAnyH_ready (rs := [11]) (by kernel_rfl) (by simp) ?_
        refine AllReadyH.cons rfl (fun K hK => ?_) AllReadyH.nil
        go_simp
        refine (progSize_any (LRep.below hHeld HLr.out) (Rep.below hHeld HR1.out)).mono ?_; rintro e' w8 ⟨rfl, hbx⟩; rw [if_pos hp1]
        refine hK.out _ _ (Below.then hHeld hbx hHeld.size) (fun hHeld => ?_)
        clear hK K
        refine' wpAnyH_take (i := 12) (v := _) rfl (by kernel_rfl) (by kernel_rfl) (by kernel_rfl) (fun _ _ _ h => h) (Or.inl ⟨by rfl, ?hy60021⟩) hHeld ?hn60021
        case hy60021 => (intro wz hSw; (try dsimp only at hSw); go_simp; first | done | with_reducible rfl)
        try simp only [List.getElem_toArray, List.getElem_cons_zero, List.getElem_cons_succ, Act.put, List.setIfInBounds_toArray, List.set_cons_zero, List.set_cons_succ]
        refine wpAnyH_ready (rs := [22]) (by kernel_rfl) (by simp) ?_
        refine AllReadyH.cons rfl (fun K hK => ?_) AllReadyH.nil
        go_simp
        refine (progSize_any (LRep.below hHeld HLr.out) (Rep.below hHeld HR2.out)).mono ?_; rintro e' w9 ⟨rfl, hbx⟩; rw [if_pos hp2]
        refine hK.out _ _ (Below.then hHeld hbx hHeld.size) (fun hHeld => ?_)
        clear hK K
        refine' wpAnyH_take (i := 23) (v := _) rfl (by kernel_rfl) (by kernel_rfl) (by kernel_rfl) (fun _ _ _ h => h) (Or.inl ⟨by rfl, ?hy60022⟩) hHeld ?hn60022
        case hy60022 => (intro wz hSw; (try dsimp only at hSw); go_simp; first | done | with_reducible rfl)
        try simp only [List.getElem_toArray, List.getElem_cons_zero, List.getElem_cons_succ, Act.put, List.setIfInBounds_toArray, List.set_cons_zero, List.set_cons_succ]
        refine' wpAnyH_take (i := 24) (v := _) rfl (by kernel_rfl) (by kernel_rfl) (by kernel_rfl) (fun _ _ _ h => h) (Or.inl ⟨by rfl, ?hy60023⟩) hHeld ?hn60023
        case hy60023 => (intro wz hSw; (try dsimp only at hSw); go_simp; first | done | with_reducible rfl)
        try simp only [List.getElem_toArray, List.getElem_cons_zero, List.getElem_cons_succ, Act.put, List.setIfInBounds_toArray, List.set_cons_zero, List.set_cons_succ]
        refine wpAnyH_done (by kernel_rfl) ?_ _
        have HB9 : Hid (Below w4.heap.size w4 w9) := Below.then HBR.out hHeld HBR.out.size
        clear hHeld HBR p0 p1 k6 k7
        go_wp2
        exact ⟨⟨i + 1, by omega, by simp, by rw [HQ.out]; simp, HB9.out⟩, by simp [intOf]; omega⟩
      · have : i = l.length := by omega
        subst this
        have eN : cnt (d + 1) (l.take l.length : List (Pay × Tr d × Tr d)) = N := by rw [List.take_length]; exact HN.out
        generalize cnt (d + 1) (l.take l.length : List (Pay × Tr d × Tr d)) = A at *
        subst eN
        go_wp2
        go_ret
        exact ⟨rfl, Below.then HB1.out (Below.then HB14.out HBR.out HB14.out.size) HB1.out.size⟩

end Go.Proofs.Ytpcmhkcahajdgaa
