/- A program is drawn, and a number of a step of it, or beside. -/
import Derived.Test.YtpmhkhajahoaaaaDoorDty
namespace Go.Proofs.YtpmhkhajahoaaaaDoor
open Go.RowKit
set_option linter.unusedSimpArgs false
set_option linter.unusedVariables false
attribute [local go_sem ↓] Go.wp_at_zero Go.wp_at_succ
attribute [local go_sem] World.cell?_alloc_some

/-- What is drawn: a program, and a number. -/
def DaPost (w : World) (e : Ending) (w' : World) : Prop := ∃ (lv sv : Value) (ls : List (Int × Int)) (d : Nat) (l : List (Pay × Tr d × Tr d)) (n : Int), e = .returned (.tuple #[.agg #[lv, sv], .int .i64 n]) ∧ LRepP (fun b => w.heap.size ≤ b) w' lv ls ∧ RepP (fun b => w.heap.size ≤ b) w' (d + 1) sv (l : List (Pay × Tr d × Tr d)) ∧ (-1 ≤ n ∧ n ≤ 1000) ∧ (1 ≤ ls.length ∧ ls.length ≤ 8) ∧ cnt (d + 1) (l : List (Pay × Tr d × Tr d)) ≤ 400 ∧ Below w.heap.size w w'

set_option maxHeartbeats 4000000 in
set_option maxRecDepth 20000 in
theorem drawProgAt_any (w : World) (a0 : Option Addr) (len0 cap0 : Nat) (zs0 : List Int) (h : IsRow .u8 w a0 len0 cap0 zs0) : Calls Tryd.prog 28 #[.slice a0 len0 cap0] w (DaPost w) := by
  have A0 : Below w.heap.size w (w.alloc (.cells #[.slice none 0 0, .slice none 0 0] 26)) := (Below.refl _ _).alloc (Nat.le_refl _) _
  have C1 : Hid _ := l6Open_any _ a0 len0 cap0 zs0 (isRow_onS h A0)
  have Z0 := C2.new w (.slice none 0 0) (.slice none 0 0) 26
  have s0 : (w.alloc (.cells #[.slice none 0 0, .slice none 0 0] 26)).heap.size = w.heap.size + 1 := by simp
  have HZ0 : Hid (C2 (w.alloc (.cells #[.slice none 0 0, .slice none 0 0] 26)) w.heap.size (.slice none 0 0) (.slice none 0 0)) := Z0
  have HA0 : Hid (Below w.heap.size w (w.alloc (.cells #[.slice none 0 0, .slice none 0 0] 26))) := A0
  clear A0 Z0 h
  go_enter Tryd.func28, Tryd.ntmps28
  go_wp2_with fail
  go_at_call 42; refine Calls.mono C1.out ?_
  rintro e w1 ⟨rfl, rd1, sz1, hb1⟩
  have B1 : Below w.heap.size w w1 := Below.then HA0.out hb1 (by omega)
  have Z1 : C2 w1 w.heap.size (.slice none 0 0) (.slice none 0 0) := HZ0.out.same (hb1.block _ (by omega))
  rw [s0] at rd1 sz1 ⊢
  have P1 : Hid _ := l71Any_any w1 (w.heap.size + 1) 0 ⟨0, by omega, rd1⟩ (by omega)
  have HB1 : Hid (Below w.heap.size w w1) := B1
  have HZ1 : Hid (C2 w1 w.heap.size (.slice none 0 0) (.slice none 0 0)) := Z1
  clear hb1 B1 Z1 HZ0 HA0 C1 rd1
  go_wp2_with fail
  go_at_call 41; refine Calls.mono P1.out ?_
  rintro e w2 ⟨lv, sv, ls, d, l, rfl, hL, hR, ll, cn, rd2, ot2⟩
  obtain ⟨la, lc, rfl, -⟩ := hL.rep
  obtain ⟨sa, sc, rfl⟩ := hR.slice
  have z2 : w1.heap.size ≤ w2.heap.size := ot2.size
  have A2 : Below w2.heap.size w2 (w2.alloc (.cells #[.slice la ls.length lc, .slice sa (ln (d + 1) (l : List (Pay × Tr d × Tr d))) sc] 26)) := (Below.refl _ _).alloc (Nat.le_refl _) _
  have G2 := C2.new w2 (.slice la ls.length lc) (.slice sa (ln (d + 1) (l : List (Pay × Tr d × Tr d))) sc) 26
  obtain ⟨y0, hy0⟩ : ∃ y, y = w2.alloc (.cells #[.slice la ls.length lc, .slice sa (ln (d + 1) (l : List (Pay × Tr d × Tr d))) sc] 26) := ⟨_, rfl⟩
  have HY : Hid _ := hy0
  rw [← hy0] at A2 G2
  obtain ⟨pb, hpb⟩ : ∃ n, n = w2.heap.size := ⟨_, rfl⟩
  have HPB : Hid _ := hpb
  rw [← hpb] at G2
  have hpw : w.heap.size + 1 < pb := by omega
  have hw1p : w1.heap.size ≤ pb := by omega
  have hpy : pb < y0.heap.size := World.block_lt_of_cell? _ _ G2.1.1
  have HZ2 : Hid (C2 y0 w.heap.size (.slice none 0 0) (.slice none 0 0)) := (HZ1.out.oth ot2 (by omega)).same (A2.block _ (by omega))
  have HB0 : Hid (Below w.heap.size w y0) := (HB1.out.trans (ot2.below (by omega) (by omega))).trans (A2.mono (by omega))
  have HLR : Hid (LRepP (fun b => w1.heap.size ≤ b) y0 (.slice la ls.length lc) ls ∧ RepP (fun b => w1.heap.size ≤ b) y0 (d + 1) (.slice sa (ln (d + 1) (l : List (Pay × Tr d × Tr d))) sc) (l : List (Pay × Tr d × Tr d))) := ⟨hL.frame (fun b p hl => ⟨A2.block b hl, p⟩), hR.frame (fun b p hl => ⟨A2.block b hl, p⟩)⟩
  obtain ⟨N, hN⟩ : ∃ N : Int, (if progB ls (d + 1) (l : List (Pay × Tr d × Tr d)) then (cnt (d + 1) (l : List (Pay × Tr d × Tr d)) : Int) else -1) = N := ⟨_, rfl⟩
  have hN0 : -1 ≤ N ∧ N ≤ 400 := by rw [← hN]; split <;> omega
  have HRD : Hid (Rd2 y0.drew (w.heap.size + 1) 80006) := (rd2.oth A2).same (fun _ _ => rfl)
  have CS : Hid _ := sProgSize_any (HLR.out.1.rep.below (Below.drew (Below.refl _ _))) (HLR.out.2.rep.below (Below.drew (Below.refl _ _))) (by omega)
  rw [hN] at CS
  have HW3 : Hid _ := w64 (N + 3) (by omega)
  obtain ⟨⟨b0, b1⟩, -⟩ := G2
  clear hL hR rd2 ot2 A2 HZ1 HB1 P1 hy0 hpb hN
  go_wp2_with fail
  rw [← HY.out, ← HPB.out]
  clear HY HPB
  refine wp_region_held (S := (fun wz => wz.cell? ⟨pb, 0, none⟩ = some (.slice la ls.length lc) ∧ wz.cell? ⟨pb, 1, none⟩ = some (.slice sa (ln (d + 1) (l : List (Pay × Tr d × Tr d))) sc))) (by kernel_rfl) ?_
  change wpAnyH _ _ _ _ _ _ _ _ (World.drew _)
  have hHeld : (fun wz => wz.cell? ⟨pb, 0, none⟩ = some (.slice la ls.length lc) ∧ wz.cell? ⟨pb, 1, none⟩ = some (.slice sa (ln (d + 1) (l : List (Pay × Tr d × Tr d))) sc)) (World.drew y0) := ⟨b0, b1⟩
  refine' wpAnyH_take (i := 0) (v := (.agg #[.slice la ls.length lc, .slice sa (ln (d + 1) (l : List (Pay × Tr d × Tr d))) sc])) rfl (by kernel_rfl) (by kernel_rfl) (by kernel_rfl) (fun _ _ _ h => h) (Or.inl ⟨by rfl, ?hy301⟩) hHeld ?hn301
  case hy301 => (intro wz hSw; obtain ⟨j0, j1⟩ := hSw; go_simp)
  try simp only [List.getElem_toArray, List.getElem_cons_zero, List.getElem_cons_succ, Act.put, List.setIfInBounds_toArray, List.set_cons_zero, List.set_cons_succ]
  refine' wpAnyH_take (i := 1) (v := _) rfl (by kernel_rfl) (by kernel_rfl) (by kernel_rfl) (fun _ _ _ h => h) (Or.inl ⟨by rfl, ?hy302⟩) hHeld ?hn302
  case hy302 => (intro wz hSw; (try dsimp only at hSw); go_simp; first | done | with_reducible rfl)
  try simp only [List.getElem_toArray, List.getElem_cons_zero, List.getElem_cons_succ, Act.put, List.setIfInBounds_toArray, List.set_cons_zero, List.set_cons_succ]
  refine' wpAnyH_take (i := 2) (v := (.agg #[.slice la ls.length lc, .slice sa (ln (d + 1) (l : List (Pay × Tr d × Tr d))) sc])) rfl (by kernel_rfl) (by kernel_rfl) (by kernel_rfl) (fun _ _ _ h => h) (Or.inl ⟨by rfl, ?hy303⟩) hHeld ?hn303
  case hy303 => (intro wz hSw; obtain ⟨j0, j1⟩ := hSw; go_simp)
  try simp only [List.getElem_toArray, List.getElem_cons_zero, List.getElem_cons_succ, Act.put, List.setIfInBounds_toArray, List.set_cons_zero, List.set_cons_succ]
  refine wpAnyH_ready (rs := [3]) (by kernel_rfl) (by simp) ?_
  refine AllReadyH.cons rfl (fun K hK => ?_) AllReadyH.nil
  go_simp
  refine Calls.mono CS.out ?_
  rintro e' x1 ⟨rfl, hbx1⟩
  have hK2 := And.intro (cell_later hbx1 hHeld.1) (cell_later hbx1 hHeld.2)
  refine hK.out _ _ (hK2) (fun hHeld => ?_)
  clear hK K
  refine' wpAnyH_take (i := 4) (v := (.int .i64 (N + 3))) rfl (by kernel_rfl) (by kernel_rfl) (by kernel_rfl) (fun _ _ _ h => h) (Or.inl ⟨by rfl, ?hy304⟩) hHeld ?hn304
  case hy304 => (intro wz hSw; have h := HW3.out; go_simp)
  try simp only [List.getElem_toArray, List.getElem_cons_zero, List.getElem_cons_succ, Act.put, List.setIfInBounds_toArray, List.set_cons_zero, List.set_cons_succ]
  refine wpAnyH_ready (rs := [5]) (by kernel_rfl) (by simp) ?_
  refine AllReadyH.cons rfl (fun K hK => ?_) AllReadyH.nil
  go_simp
  refine Calls.mono (pick2 x1 (w.heap.size + 1) 80006 (N + 3) (HRD.out.oth hbx1) (by omega) (by omega) (by omega)) ?_
  rintro e' x2 ⟨k, rfl, k0, k1, -, ot5⟩
  have hK2 := And.intro (ot5.cell (by show pb ≠ w.heap.size + 1; omega) hHeld.1) (ot5.cell (by show pb ≠ w.heap.size + 1; omega) hHeld.2)
  have hw7 := w64 (k - 1) (by omega)
  refine hK.out _ _ (hK2) (fun hHeld => ?_)
  clear hK K
  refine' wpAnyH_take (i := 6) (v := (.int .i64 (k - 1))) rfl (by kernel_rfl) (by kernel_rfl) (by kernel_rfl) (fun _ _ _ h => h) (Or.inl ⟨by rfl, ?hy305⟩) hHeld ?hn305
  case hy305 => (intro wz hSw; go_simp)
  try simp only [List.getElem_toArray, List.getElem_cons_zero, List.getElem_cons_succ, Act.put, List.setIfInBounds_toArray, List.set_cons_zero, List.set_cons_succ]
  refine wpAnyH_ready (rs := [7]) (by kernel_rfl) (by simp) ?_
  refine AllReadyH.cons rfl (fun K hK => ?_) AllReadyH.nil
  skip
  have O3 : Oth (w.heap.size + 1) y0 x2 := Oth.trans (Oth.trans (Oth.drew (Oth.refl _ _)) (Oth.of_below hbx1)) ot5
  have Z1 := HZ2.out.oth (w' := x2) O3 (by omega)
  have hset : ∀ b, b ≠ w.heap.size → ((x2.setCell ⟨w.heap.size, 0, none⟩ (.slice la ls.length lc)).setCell ⟨w.heap.size, 1, none⟩ (.slice sa (ln (d + 1) (l : List (Pay × Tr d × Tr d))) sc)).heap[b]? = x2.heap[b]? := fun b hb => (Below.heap_setCell _ _ _ _ hb).trans (Below.heap_setCell _ _ _ _ hb)
  have GG : Hid _ := (C2.set0 (.slice la ls.length lc) Z1).set1 (.slice sa (ln (d + 1) (l : List (Pay × Tr d × Tr d))) sc)
  have z1 : y0.heap.size ≤ x2.heap.size := O3.size
  have FL : LRepP (fun b => w.heap.size ≤ b) ((x2.setCell ⟨w.heap.size, 0, none⟩ (.slice la ls.length lc)).setCell ⟨w.heap.size, 1, none⟩ (.slice sa (ln (d + 1) (l : List (Pay × Tr d × Tr d))) sc)) (.slice la ls.length lc) ls := HLR.out.1.frame (fun b p hl => ⟨(hset b (by omega)).trans (O3.block b hl (by omega)), by omega⟩)
  have FR : RepP (fun b => w.heap.size ≤ b) ((x2.setCell ⟨w.heap.size, 0, none⟩ (.slice la ls.length lc)).setCell ⟨w.heap.size, 1, none⟩ (.slice sa (ln (d + 1) (l : List (Pay × Tr d × Tr d))) sc)) (d + 1) (.slice sa (ln (d + 1) (l : List (Pay × Tr d × Tr d))) sc) (l : List (Pay × Tr d × Tr d)) := HLR.out.2.frame (fun b p hl => ⟨(hset b (by omega)).trans (O3.block b hl (by omega)), by omega⟩)
  have FB : Below w.heap.size w ((x2.setCell ⟨w.heap.size, 0, none⟩ (.slice la ls.length lc)).setCell ⟨w.heap.size, 1, none⟩ (.slice sa (ln (d + 1) (l : List (Pay × Tr d × Tr d))) sc)) := ((HB0.out.trans (O3.below (by omega) (by omega))).setCell (Nat.le_refl _) _).setCell (Nat.le_refl _) _
  have hk2 : ∀ o, ((x2.setCell ⟨w.heap.size, 0, none⟩ (.slice la ls.length lc)).setCell ⟨w.heap.size, 1, none⟩ (.slice sa (ln (d + 1) (l : List (Pay × Tr d × Tr d))) sc)).cell? ⟨pb, o, none⟩ = x2.cell? ⟨pb, o, none⟩ := fun o => World.cell?_of_block (hset pb (by omega))
  obtain ⟨⟨q0, q1⟩, u0, u1⟩ := id Z1
  have hK2 := And.intro ((hk2 0).trans hHeld.1) ((hk2 1).trans hHeld.2)
  go_simp
  generalize ((x2.setCell ⟨w.heap.size, 0, none⟩ (.slice la ls.length lc)).setCell ⟨w.heap.size, 1, none⟩ (.slice sa (ln (d + 1) (l : List (Pay × Tr d × Tr d))) sc)) = y2 at GG FL FR FB hk2 hK2 ⊢
  clear q0 q1 u0 u1 Z1 hset
  refine hK.out _ _ (hK2) (fun hHeld => ?_)
  clear hK K
  refine' wpAnyH_take (i := 8) (v := _) rfl (by kernel_rfl) (by kernel_rfl) (by kernel_rfl) (fun _ _ _ h => h) (Or.inl ⟨by rfl, ?hy306⟩) hHeld ?hn306
  case hy306 => (intro wz hSw; (try dsimp only at hSw); go_simp; first | done | with_reducible rfl)
  try simp only [List.getElem_toArray, List.getElem_cons_zero, List.getElem_cons_succ, Act.put, List.setIfInBounds_toArray, List.set_cons_zero, List.set_cons_succ]
  refine wpAnyH_done (by kernel_rfl) ?_ _
  have HF : Hid (LRepP (fun b => w.heap.size ≤ b) y2 (.slice la ls.length lc) ls ∧ RepP (fun b => w.heap.size ≤ b) y2 (d + 1) (.slice sa (ln (d + 1) (l : List (Pay × Tr d × Tr d))) sc) (l : List (Pay × Tr d × Tr d)) ∧ Below w.heap.size w y2) := ⟨FL, FR, FB⟩
  clear hHeld ot5 O3 FL FR FB hk2 hK2 z1 CS HZ2 HB0 HLR hbx1
  go_wp2
  obtain ⟨⟨q0, q1⟩, -⟩ := GG.out
  exact bodyPost_ret (v := .tuple #[.agg #[.slice la ls.length lc, .slice sa (ln (d + 1) (l : List (Pay × Tr d × Tr d))) sc], .int .i64 (k - 1)]) (by simp [results, Tryd.results28, go_sem, q0, q1]) rfl ⟨_, _, ls, d, l, k - 1, rfl, HF.out.1, HF.out.2.1, by omega, ll, cn, HF.out.2.2⟩

end Go.Proofs.YtpmhkhajahoaaaaDoor
