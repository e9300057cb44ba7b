/- Programs that laws draw. -/
import Derived.Test.YtpmhkhajahoaaaaDoorAnx
import Derived.Test.YtpmhkhajahoaaaaDoorImp
import Derived.Test.YtpmhkhajahoaaaaDoorTyx
namespace Go.Proofs.YtpmhkhajahoaaaaDoor
open Go.RowKit
set_option linter.unusedSimpArgs false
set_option linter.unusedVariables false
attribute [local go_sem ↓] Go.wp_at_zero Go.wp_at_succ
attribute [local go_sem] World.cell?_alloc_some

theorem isRow_onS {k : IntKind} {w w' : World} {a : Option Addr} {len cap : Nat} {zs : List Int} (h : IsRow k w a len cap zs) (hb : Below w.heap.size w w') : IsRow k w' a len cap zs := by
  rcases h with h | ⟨x, h0, h1, h2, h3, h4, h5⟩
  · exact .inl h
  · exact .inr ⟨x, h0, h1, h2, h3, fun i hi => cell_later hb (h4 i hi), h5⟩
theorem stB_mono {n : Int} : ∀ (d : Nat) (T : Tr d) (deep deep' : Int), deep ≤ deep' → stB n d deep T = true → stB n d deep' T = true
  | 0, _, _, _, _, _ => rfl
  | d + 1, (l : List (Pay × Tr d × Tr d)), deep, deep', hd, h => by
    have h' : (l.all fun x => decide (1 ≤ deep) && payB n x.1 (decide (ln d x.2.1 + ln d x.2.2 = 0)) && (stB n d (deep - 1) x.2.1 && stB n d (deep - 1) x.2.2)) = true := h
    show (l.all fun x => decide (1 ≤ deep') && payB n x.1 (decide (ln d x.2.1 + ln d x.2.2 = 0)) && (stB n d (deep' - 1) x.2.1 && stB n d (deep' - 1) x.2.2)) = true
    refine List.all_eq_true.2 fun x hx => ?_
    have := List.all_eq_true.1 h' x hx
    simp only [Bool.and_eq_true_iff, decide_eq_true_eq] at this ⊢
    exact ⟨⟨by omega, this.1.2⟩, stB_mono d _ _ _ (by omega) this.2.1, stB_mono d _ _ _ (by omega) this.2.2⟩
theorem progB_in {ls : List (Int × Int)} {d : Nat} {l : List (Pay × Tr d × Tr d)} (h : progB ls (d + 1) (l : List (Pay × Tr d × Tr d)) = true) (i : Nat) (hi : i < l.length) : progB ls d l[i].2.1 = true ∧ progB ls d l[i].2.2 = true := by
  have hst := progB_st h
  have hcn := progB_cnt h
  have q1 := cnt_take l i hi
  have q2 := cnt_take_le l (i + 1)
  have hs' : (l.all fun x => decide ((1 : Int) ≤ 3) && payB ls.length x.1 (decide (ln d x.2.1 + ln d x.2.2 = 0)) && (stB ls.length d (3 - 1) x.2.1 && stB ls.length d (3 - 1) x.2.2)) = true := hst
  have hx := List.all_eq_true.1 hs' l[i] (List.getElem_mem hi)
  simp only [Bool.and_eq_true_iff] at hx
  have l4 := progB_len h
  have lb := progB_labs h
  unfold progB
  simp only [Bool.and_eq_true_iff, decide_eq_true_eq]
  exact ⟨⟨l4, lb, stB_mono d _ _ _ (by omega) hx.2.1, by omega⟩, l4, lb, stB_mono d _ _ _ (by omega) hx.2.2, by omega⟩
/-- What is drawn: a program. -/
def DpP (w : World) (e : Ending) (w' : World) : Prop := ∃ (lv sv : Value) (ls : List (Int × Int)) (d : Nat) (l : List (Pay × Tr d × Tr d)), e = .returned (.agg #[lv, sv]) ∧ LRepP (fun b => w.heap.size ≤ b) w' lv ls ∧ RepP (fun b => w.heap.size ≤ b) w' (d + 1) sv (l : List (Pay × Tr d × Tr d)) ∧ (1 ≤ ls.length ∧ ls.length ≤ 8) ∧ cnt (d + 1) (l : List (Pay × Tr d × Tr d)) ≤ 400 ∧ Below w.heap.size w w'

set_option maxHeartbeats 4000000 in
theorem drawTypeOk_any (w : World) (a0 : Option Addr) (len0 cap0 : Nat) (zs : List Int) (h : IsRow .u8 w a0 len0 cap0 zs) : Calls Tryd.prog 26 #[.slice a0 len0 cap0] w (DpP w) := by
  have A0 : Below w.heap.size w (w.alloc (.cells #[.slice none 0 0, .slice none 0 0] 26)) := (Below.refl _ _).alloc (Nat.le_refl _) _
  have C1 : Hid _ := l6Open_any _ a0 len0 cap0 zs (isRow_onS h A0)
  have Z0 := C2.new w (.slice none 0 0) (.slice none 0 0) 26
  have s0 : (w.alloc (.cells #[.slice none 0 0, .slice none 0 0] 26)).heap.size = w.heap.size + 1 := by simp
  have HZ0 : Hid (C2 (w.alloc (.cells #[.slice none 0 0, .slice none 0 0] 26)) w.heap.size (.slice none 0 0) (.slice none 0 0)) := Z0
  have HA0 : Hid (Below w.heap.size w (w.alloc (.cells #[.slice none 0 0, .slice none 0 0] 26))) := A0
  clear A0 Z0 h
  go_enter Tryd.func26, Tryd.ntmps26
  go_wp2_with fail
  go_at_call 42; refine Calls.mono C1.out ?_
  rintro e w1 ⟨rfl, rd1, sz1, hb1⟩
  have B1 : Below w.heap.size w w1 := Below.then HA0.out hb1 (by omega)
  have Z1 : C2 w1 w.heap.size (.slice none 0 0) (.slice none 0 0) := HZ0.out.same (hb1.block _ (by omega))
  rw [s0] at rd1 sz1 ⊢
  have P1 : Hid _ := l71Any_any w1 (w.heap.size + 1) 0 ⟨0, by omega, rd1⟩ (by omega)
  have HB1 : Hid (Below w.heap.size w w1) := B1
  have HZ1 : Hid (C2 w1 w.heap.size (.slice none 0 0) (.slice none 0 0)) := Z1
  clear hb1 B1 Z1 HZ0 HA0 C1 rd1
  go_wp2_with fail
  go_at_call 41; refine Calls.mono P1.out ?_
  rintro e w3 ⟨lv, sv, ls, d, l, rfl, hL, hR, ll, cn, rd2, ot2⟩
  have Z3 : C2 w3 w.heap.size (.slice none 0 0) (.slice none 0 0) := HZ1.out.oth ot2 (by omega)
  have HB3 : Hid (Below w.heap.size w w3) := HB1.out.trans (ot2.below (by omega) (by omega))
  obtain ⟨la, lc, rfl, -⟩ := hL.rep
  obtain ⟨sa, sc, rfl⟩ := hR.slice
  have hset : ∀ b, b ≠ w.heap.size → ((w3.setCell ⟨w.heap.size, 0, none⟩ (.slice la ls.length lc)).setCell ⟨w.heap.size, 1, none⟩ (.slice sa (ln (d + 1) (l : List (Pay × Tr d × Tr d))) sc)).heap[b]? = w3.heap[b]? := fun b hb => (Below.heap_setCell _ _ _ _ hb).trans (Below.heap_setCell _ _ _ _ hb)
  have HF : Hid (LRepP (fun b => w.heap.size ≤ b) ((w3.setCell ⟨w.heap.size, 0, none⟩ (.slice la ls.length lc)).setCell ⟨w.heap.size, 1, none⟩ (.slice sa (ln (d + 1) (l : List (Pay × Tr d × Tr d))) sc)) (.slice la ls.length lc) ls ∧ RepP (fun b => w.heap.size ≤ b) ((w3.setCell ⟨w.heap.size, 0, none⟩ (.slice la ls.length lc)).setCell ⟨w.heap.size, 1, none⟩ (.slice sa (ln (d + 1) (l : List (Pay × Tr d × Tr d))) sc)) (d + 1) (.slice sa (ln (d + 1) (l : List (Pay × Tr d × Tr d))) sc) (l : List (Pay × Tr d × Tr d))) :=
    ⟨hL.frame (fun b p hl => ⟨hset b (by omega), by omega⟩), hR.frame (fun b p hl => ⟨hset b (by omega), by omega⟩)⟩
  have GG : Hid _ := (C2.set0 (.slice la ls.length lc) Z3).set1 (.slice sa (ln (d + 1) (l : List (Pay × Tr d × Tr d))) sc)
  obtain ⟨⟨z0, z1⟩, u0, u1⟩ := Z3
  clear hL hR rd2 ot2 hset HZ1 HB1 P1
  go_wp2
  obtain ⟨⟨q0, q1⟩, -⟩ := GG.out
  exact bodyPost_ret (v := .agg #[.slice la ls.length lc, .slice sa (ln (d + 1) (l : List (Pay × Tr d × Tr d))) sc]) (by simp [results, Tryd.results26, go_sem, q0, q1]) rfl ⟨_, _, ls, d, l, rfl, HF.out.1, HF.out.2, ll, cn, (HB3.out.setCell (Nat.le_refl _) _).setCell (Nat.le_refl _) _⟩

set_option maxHeartbeats 4000000 in
theorem drawTypeAt_any (w : World) (a0 : Option Addr) (len0 cap0 : Nat) (zs : List Int) (h : IsRow .u8 w a0 len0 cap0 zs) : Calls Tryd.prog 14 #[.slice a0 len0 cap0] w (DpP w) := by
  have A0 : Below w.heap.size w (w.alloc (.cells #[.slice none 0 0, .slice none 0 0] 26)) := (Below.refl _ _).alloc (Nat.le_refl _) _
  have C1 : Hid _ := l6Open_any _ a0 len0 cap0 zs (isRow_onS h A0)
  have Z0 := C2.new w (.slice none 0 0) (.slice none 0 0) 26
  have s0 : (w.alloc (.cells #[.slice none 0 0, .slice none 0 0] 26)).heap.size = w.heap.size + 1 := by simp
  have HZ0 : Hid (C2 (w.alloc (.cells #[.slice none 0 0, .slice none 0 0] 26)) w.heap.size (.slice none 0 0) (.slice none 0 0)) := Z0
  have HA0 : Hid (Below w.heap.size w (w.alloc (.cells #[.slice none 0 0, .slice none 0 0] 26))) := A0
  clear A0 Z0 h
  go_enter Tryd.func14, Tryd.ntmps14
  go_wp2_with fail
  go_at_call 42; refine Calls.mono C1.out ?_
  rintro e w1 ⟨rfl, rd1, sz1, hb1⟩
  have B1 : Below w.heap.size w w1 := Below.then HA0.out hb1 (by omega)
  have Z1 : C2 w1 w.heap.size (.slice none 0 0) (.slice none 0 0) := HZ0.out.same (hb1.block _ (by omega))
  rw [s0] at rd1 sz1 ⊢
  have P1 : Hid _ := l71Any_any w1 (w.heap.size + 1) 0 ⟨0, by omega, rd1⟩ (by omega)
  have HB1 : Hid (Below w.heap.size w w1) := B1
  have HZ1 : Hid (C2 w1 w.heap.size (.slice none 0 0) (.slice none 0 0)) := Z1
  clear hb1 B1 Z1 HZ0 HA0 C1 rd1
  go_wp2_with fail
  go_at_call 41; refine Calls.mono P1.out ?_
  rintro e w3 ⟨lv, sv, ls, d, l, rfl, hL, hR, ll, cn, rd2, ot2⟩
  have Z3 : C2 w3 w.heap.size (.slice none 0 0) (.slice none 0 0) := HZ1.out.oth ot2 (by omega)
  have HB3 : Hid (Below w.heap.size w w3) := HB1.out.trans (ot2.below (by omega) (by omega))
  obtain ⟨la, lc, rfl, -⟩ := hL.rep
  obtain ⟨sa, sc, rfl⟩ := hR.slice
  have hset : ∀ b, b ≠ w.heap.size → ((w3.setCell ⟨w.heap.size, 0, none⟩ (.slice la ls.length lc)).setCell ⟨w.heap.size, 1, none⟩ (.slice sa (ln (d + 1) (l : List (Pay × Tr d × Tr d))) sc)).heap[b]? = w3.heap[b]? := fun b hb => (Below.heap_setCell _ _ _ _ hb).trans (Below.heap_setCell _ _ _ _ hb)
  have HF : Hid (LRepP (fun b => w.heap.size ≤ b) ((w3.setCell ⟨w.heap.size, 0, none⟩ (.slice la ls.length lc)).setCell ⟨w.heap.size, 1, none⟩ (.slice sa (ln (d + 1) (l : List (Pay × Tr d × Tr d))) sc)) (.slice la ls.length lc) ls ∧ RepP (fun b => w.heap.size ≤ b) ((w3.setCell ⟨w.heap.size, 0, none⟩ (.slice la ls.length lc)).setCell ⟨w.heap.size, 1, none⟩ (.slice sa (ln (d + 1) (l : List (Pay × Tr d × Tr d))) sc)) (d + 1) (.slice sa (ln (d + 1) (l : List (Pay × Tr d × Tr d))) sc) (l : List (Pay × Tr d × Tr d))) :=
    ⟨hL.frame (fun b p hl => ⟨hset b (by omega), by omega⟩), hR.frame (fun b p hl => ⟨hset b (by omega), by omega⟩)⟩
  have GG : Hid _ := (C2.set0 (.slice la ls.length lc) Z3).set1 (.slice sa (ln (d + 1) (l : List (Pay × Tr d × Tr d))) sc)
  obtain ⟨⟨z0, z1⟩, u0, u1⟩ := Z3
  clear hL hR rd2 ot2 hset HZ1 HB1 P1
  go_wp2
  obtain ⟨⟨q0, q1⟩, -⟩ := GG.out
  exact bodyPost_ret (v := .agg #[.slice la ls.length lc, .slice sa (ln (d + 1) (l : List (Pay × Tr d × Tr d))) sc]) (by simp [results, Tryd.results14, go_sem, q0, q1]) rfl ⟨_, _, ls, d, l, rfl, HF.out.1, HF.out.2, ll, cn, (HB3.out.setCell (Nat.le_refl _) _).setCell (Nat.le_refl _) _⟩

set_option maxHeartbeats 4000000 in
theorem drawTypeSets_any (w : World) (a0 : Option Addr) (len0 cap0 : Nat) (zs : List Int) (h : IsRow .u8 w a0 len0 cap0 zs) : Calls Tryd.prog 20 #[.slice a0 len0 cap0] w (DpP w) := by
  have A0 : Below w.heap.size w (w.alloc (.cells #[.slice none 0 0, .slice none 0 0] 26)) := (Below.refl _ _).alloc (Nat.le_refl _) _
  have C1 : Hid _ := l6Open_any _ a0 len0 cap0 zs (isRow_onS h A0)
  have Z0 := C2.new w (.slice none 0 0) (.slice none 0 0) 26
  have s0 : (w.alloc (.cells #[.slice none 0 0, .slice none 0 0] 26)).heap.size = w.heap.size + 1 := by simp
  have HZ0 : Hid (C2 (w.alloc (.cells #[.slice none 0 0, .slice none 0 0] 26)) w.heap.size (.slice none 0 0) (.slice none 0 0)) := Z0
  have HA0 : Hid (Below w.heap.size w (w.alloc (.cells #[.slice none 0 0, .slice none 0 0] 26))) := A0
  clear A0 Z0 h
  go_enter Tryd.func20, Tryd.ntmps20
  go_wp2_with fail
  go_at_call 42; refine Calls.mono C1.out ?_
  rintro e w1 ⟨rfl, rd1, sz1, hb1⟩
  have B1 : Below w.heap.size w w1 := Below.then HA0.out hb1 (by omega)
  have Z1 : C2 w1 w.heap.size (.slice none 0 0) (.slice none 0 0) := HZ0.out.same (hb1.block _ (by omega))
  rw [s0] at rd1 sz1 ⊢
  have P1 : Hid _ := l71Any_any w1 (w.heap.size + 1) 0 ⟨0, by omega, rd1⟩ (by omega)
  have HB1 : Hid (Below w.heap.size w w1) := B1
  have HZ1 : Hid (C2 w1 w.heap.size (.slice none 0 0) (.slice none 0 0)) := Z1
  clear hb1 B1 Z1 HZ0 HA0 C1 rd1
  go_wp2_with fail
  go_at_call 41; refine Calls.mono P1.out ?_
  rintro e w3 ⟨lv, sv, ls, d, l, rfl, hL, hR, ll, cn, rd2, ot2⟩
  have Z3 : C2 w3 w.heap.size (.slice none 0 0) (.slice none 0 0) := HZ1.out.oth ot2 (by omega)
  have HB3 : Hid (Below w.heap.size w w3) := HB1.out.trans (ot2.below (by omega) (by omega))
  obtain ⟨la, lc, rfl, -⟩ := hL.rep
  obtain ⟨sa, sc, rfl⟩ := hR.slice
  have hset : ∀ b, b ≠ w.heap.size → ((w3.setCell ⟨w.heap.size, 0, none⟩ (.slice la ls.length lc)).setCell ⟨w.heap.size, 1, none⟩ (.slice sa (ln (d + 1) (l : List (Pay × Tr d × Tr d))) sc)).heap[b]? = w3.heap[b]? := fun b hb => (Below.heap_setCell _ _ _ _ hb).trans (Below.heap_setCell _ _ _ _ hb)
  have HF : Hid (LRepP (fun b => w.heap.size ≤ b) ((w3.setCell ⟨w.heap.size, 0, none⟩ (.slice la ls.length lc)).setCell ⟨w.heap.size, 1, none⟩ (.slice sa (ln (d + 1) (l : List (Pay × Tr d × Tr d))) sc)) (.slice la ls.length lc) ls ∧ RepP (fun b => w.heap.size ≤ b) ((w3.setCell ⟨w.heap.size, 0, none⟩ (.slice la ls.length lc)).setCell ⟨w.heap.size, 1, none⟩ (.slice sa (ln (d + 1) (l : List (Pay × Tr d × Tr d))) sc)) (d + 1) (.slice sa (ln (d + 1) (l : List (Pay × Tr d × Tr d))) sc) (l : List (Pay × Tr d × Tr d))) :=
    ⟨hL.frame (fun b p hl => ⟨hset b (by omega), by omega⟩), hR.frame (fun b p hl => ⟨hset b (by omega), by omega⟩)⟩
  have GG : Hid _ := (C2.set0 (.slice la ls.length lc) Z3).set1 (.slice sa (ln (d + 1) (l : List (Pay × Tr d × Tr d))) sc)
  obtain ⟨⟨z0, z1⟩, u0, u1⟩ := Z3
  clear hL hR rd2 ot2 hset HZ1 HB1 P1
  go_wp2
  obtain ⟨⟨q0, q1⟩, -⟩ := GG.out
  exact bodyPost_ret (v := .agg #[.slice la ls.length lc, .slice sa (ln (d + 1) (l : List (Pay × Tr d × Tr d))) sc]) (by simp [results, Tryd.results20, go_sem, q0, q1]) rfl ⟨_, _, ls, d, l, rfl, HF.out.1, HF.out.2, ll, cn, (HB3.out.setCell (Nat.le_refl _) _).setCell (Nat.le_refl _) _⟩

end Go.Proofs.YtpmhkhajahoaaaaDoor
