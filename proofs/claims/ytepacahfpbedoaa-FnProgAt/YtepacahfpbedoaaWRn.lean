/- A program is done just with its numbers: the law, walked. -/
import Derived.Test.YtepacahfpbedoaaAnx
import Derived.Test.YtepacahfpbedoaaNrx
import Derived.Test.YtepacahfpbedoaaRfx
namespace Go.Proofs.Ytepacahfpbedoaa
open Go.RowKit
set_option linter.unusedSimpArgs false
set_option linter.unusedVariables false
attribute [local go_sem ↓] Go.wp_at_zero Go.wp_at_succ
attribute [local go_sem] World.cell?_alloc_some

theorem isRow_onN {k : IntKind} {w w' : World} {a : Option Addr} {len cap : Nat} {zs : List Int} (h : IsRow k w a len cap zs) (hb : Below w.heap.size w w') : IsRow k w' a len cap zs := by
  rcases h with h | ⟨x, h0, h1, h2, h3, h4, h5⟩
  · exact .inl h
  · exact .inr ⟨x, h0, h1, h2, h3, fun i hi => cell_later hb (h4 i hi), h5⟩
/-- What is drawn: a program, and numbers. -/
def DnPost (w : World) (e : Ending) (w' : World) : Prop := ∃ (lv sv nv : Value) (ls : List (Int × Int)) (d : Nat) (l : List (Pay × Tr d × Tr d)) (zs : List Int), e = .returned (.tuple #[.agg #[lv, sv], nv]) ∧ LRepP (fun b => w.heap.size ≤ b) w' lv ls ∧ RepP (fun b => w.heap.size ≤ b) w' (d + 1) sv (l : List (Pay × Tr d × Tr d)) ∧ (GRep (Value.int .i64) w' nv zs ∧ ∃ ad nc, nv = .slice (some ad) zs.length nc ∧ w.heap.size ≤ ad.block) ∧ (1 ≤ ls.length ∧ ls.length ≤ 8) ∧ cnt (d + 1) (l : List (Pay × Tr d × Tr d)) ≤ 400 ∧ Below w.heap.size w w'

set_option maxHeartbeats 4000000 in
set_option maxRecDepth 20000 in
theorem drawNumsOk_any (w : World) (a0 : Option Addr) (len0 cap0 : Nat) (zs0 : List Int) (h : IsRow .u8 w a0 len0 cap0 zs0) : Calls Try.prog 31 #[.slice a0 len0 cap0] w (DnPost w) := by
  have A0 : Below w.heap.size w (w.alloc (.cells #[.slice none 0 0, .slice none 0 0] 26)) := (Below.refl _ _).alloc (Nat.le_refl _) _
  have C1 : Hid _ := l6Open_any _ a0 len0 cap0 zs0 (isRow_onN h A0)
  have Z0 := C2.new w (.slice none 0 0) (.slice none 0 0) 26
  have s0 : (w.alloc (.cells #[.slice none 0 0, .slice none 0 0] 26)).heap.size = w.heap.size + 1 := by simp
  have HZ0 : Hid (C2 (w.alloc (.cells #[.slice none 0 0, .slice none 0 0] 26)) w.heap.size (.slice none 0 0) (.slice none 0 0)) := Z0
  have HA0 : Hid (Below w.heap.size w (w.alloc (.cells #[.slice none 0 0, .slice none 0 0] 26))) := A0
  clear A0 Z0 h
  go_enter Try.func31, Try.ntmps31
  go_wp2_with fail
  go_at_call 33; refine Calls.mono C1.out ?_
  rintro e w1 ⟨rfl, rd1, sz1, hb1⟩
  have B1 : Below w.heap.size w w1 := Below.then HA0.out hb1 (by omega)
  have Z1 : C2 w1 w.heap.size (.slice none 0 0) (.slice none 0 0) := HZ0.out.same (hb1.block _ (by omega))
  rw [s0] at rd1 sz1 ⊢
  have P1 : Hid _ := l71Any_any w1 (w.heap.size + 1) 0 ⟨0, by omega, rd1⟩ (by omega)
  have HB1 : Hid (Below w.heap.size w w1) := B1
  have HZ1 : Hid (C2 w1 w.heap.size (.slice none 0 0) (.slice none 0 0)) := Z1
  clear hb1 B1 Z1 HZ0 HA0 C1 rd1
  go_wp2_with fail
  go_at_call 34; refine Calls.mono P1.out ?_
  rintro e w2 ⟨lv, sv, ls, d, l, rfl, hL, hR, ll, cn, rd2, ot2⟩
  obtain ⟨la, lc, rfl, -⟩ := hL.rep
  obtain ⟨sa, sc, rfl⟩ := hR.slice
  have z2 : w1.heap.size ≤ w2.heap.size := ot2.size
  have A2 : Below w2.heap.size w2 (w2.alloc (.cells #[.slice la ls.length lc, .slice sa (ln (d + 1) (l : List (Pay × Tr d × Tr d))) sc] 26)) := (Below.refl _ _).alloc (Nat.le_refl _) _
  have G2 := C2.new w2 (.slice la ls.length lc) (.slice sa (ln (d + 1) (l : List (Pay × Tr d × Tr d))) sc) 26
  obtain ⟨y0, hy0⟩ : ∃ y, y = w2.alloc (.cells #[.slice la ls.length lc, .slice sa (ln (d + 1) (l : List (Pay × Tr d × Tr d))) sc] 26) := ⟨_, rfl⟩
  have HY : Hid _ := hy0
  rw [← hy0] at A2 G2
  obtain ⟨pb, hpb⟩ : ∃ n, n = w2.heap.size := ⟨_, rfl⟩
  have HPB : Hid _ := hpb
  rw [← hpb] at G2
  have hpw : w.heap.size + 1 < pb := by omega
  have hw1p : w1.heap.size ≤ pb := by omega
  have hpy : pb < y0.heap.size := World.block_lt_of_cell? _ _ G2.1.1
  have HZ2 : Hid (C2 y0 w.heap.size (.slice none 0 0) (.slice none 0 0)) := (HZ1.out.oth ot2 (by omega)).same (A2.block _ (by omega))
  have HB0 : Hid (Below w.heap.size w y0) := (HB1.out.trans (ot2.below (by omega) (by omega))).trans (A2.mono (by omega))
  have HLR : Hid (LRepP (fun b => w1.heap.size ≤ b) y0 (.slice la ls.length lc) ls ∧ RepP (fun b => w1.heap.size ≤ b) y0 (d + 1) (.slice sa (ln (d + 1) (l : List (Pay × Tr d × Tr d))) sc) (l : List (Pay × Tr d × Tr d))) := ⟨hL.frame (fun b p hl => ⟨A2.block b hl, p⟩), hR.frame (fun b p hl => ⟨A2.block b hl, p⟩)⟩
  have CN : Hid _ := l71Nums8_any y0.drew (w.heap.size + 1) 80006 la sa ls.length lc (ln (d + 1) (l : List (Pay × Tr d × Tr d))) sc ((rd2.oth A2).same (fun _ _ => rfl)) (by omega) ll.1 ll.2
  obtain ⟨⟨b0, b1⟩, -⟩ := G2
  clear hL hR rd2 ot2 A2 HZ1 HB1 P1 hy0 hpb
  go_wp2_with fail
  rw [← HY.out, ← HPB.out]
  clear HY HPB
  refine wp_region_held (S := (fun wz => wz.cell? ⟨pb, 0, none⟩ = some (.slice la ls.length lc) ∧ wz.cell? ⟨pb, 1, none⟩ = some (.slice sa (ln (d + 1) (l : List (Pay × Tr d × Tr d))) sc))) (by kernel_rfl) ?_
  change wpAnyH _ _ _ _ _ _ _ _ (World.drew _)
  have hHeld : (fun wz => wz.cell? ⟨pb, 0, none⟩ = some (.slice la ls.length lc) ∧ wz.cell? ⟨pb, 1, none⟩ = some (.slice sa (ln (d + 1) (l : List (Pay × Tr d × Tr d))) sc)) (World.drew y0) := ⟨b0, b1⟩
  refine' wpAnyH_take (i := 0) (v := .agg #[.slice la ls.length lc, .slice sa (ln (d + 1) (l : List (Pay × Tr d × Tr d))) sc]) rfl (by kernel_rfl) (by kernel_rfl) (by kernel_rfl) (fun _ _ _ h => h) (Or.inl ⟨by rfl, ?hy7001⟩) hHeld ?hn7001
  case hy7001 => (intro wz hSw; obtain ⟨j0, j1⟩ := hSw; go_simp)
  try simp only [List.getElem_toArray, List.getElem_cons_zero, List.getElem_cons_succ, Act.put, List.setIfInBounds_toArray, List.set_cons_zero, List.set_cons_succ]
  refine' wpAnyH_take (i := 1) (v := _) rfl (by kernel_rfl) (by kernel_rfl) (by kernel_rfl) (fun _ _ _ h => h) (Or.inl ⟨by rfl, ?hy7002⟩) hHeld ?hn7002
  case hy7002 => (intro wz hSw; go_simp; first | done | with_reducible rfl)
  try simp only [List.getElem_toArray, List.getElem_cons_zero, List.getElem_cons_succ, Act.put, List.setIfInBounds_toArray, List.set_cons_zero, List.set_cons_succ]
  refine' wpAnyH_take (i := 2) (v := .agg #[.slice la ls.length lc, .slice sa (ln (d + 1) (l : List (Pay × Tr d × Tr d))) sc]) rfl (by kernel_rfl) (by kernel_rfl) (by kernel_rfl) (fun _ _ _ h => h) (Or.inl ⟨by rfl, ?hy7003⟩) hHeld ?hn7003
  case hy7003 => (intro wz hSw; obtain ⟨j0, j1⟩ := hSw; go_simp)
  try simp only [List.getElem_toArray, List.getElem_cons_zero, List.getElem_cons_succ, Act.put, List.setIfInBounds_toArray, List.set_cons_zero, List.set_cons_succ]
  refine wpAnyH_ready (rs := [3]) (by kernel_rfl) (by simp) ?_
  refine AllReadyH.cons rfl (fun K hK => ?_) AllReadyH.nil
  go_simp
  refine Calls.mono CN.out ?_
  rintro e' y1 ⟨zs, ad, nc, rfl, rd1, ot1, own1⟩
  refine hK.out _ _ (⟨ot1.cell (by show pb ≠ w.heap.size + 1; omega) hHeld.1, ot1.cell (by show pb ≠ w.heap.size + 1; omega) hHeld.2⟩) (fun hHeld => ?_)
  clear hK K
  refine wpAnyH_ready (rs := [4]) (by kernel_rfl) (by simp) ?_
  refine AllReadyH.cons rfl (fun K hK => ?_) AllReadyH.nil
  have Z1 := HZ2.out.oth (w' := y1) (Oth.trans (Oth.drew (Oth.refl _ _)) ot1) (by omega)
  have hset : ∀ b, b ≠ w.heap.size → ((y1.setCell ⟨w.heap.size, 0, none⟩ (.slice la ls.length lc)).setCell ⟨w.heap.size, 1, none⟩ (.slice sa (ln (d + 1) (l : List (Pay × Tr d × Tr d))) sc)).heap[b]? = y1.heap[b]? := fun b hb => (Below.heap_setCell _ _ _ _ hb).trans (Below.heap_setCell _ _ _ _ hb)
  have GG : Hid _ := (C2.set0 (.slice la ls.length lc) Z1).set1 (.slice sa (ln (d + 1) (l : List (Pay × Tr d × Tr d))) sc)
  have O3 : Oth (w.heap.size + 1) y0 y1 := Oth.trans (Oth.drew (Oth.refl _ _)) ot1
  have z1 : y0.heap.size ≤ y1.heap.size := O3.size
  have FL : LRepP (fun b => w.heap.size ≤ b) ((y1.setCell ⟨w.heap.size, 0, none⟩ (.slice la ls.length lc)).setCell ⟨w.heap.size, 1, none⟩ (.slice sa (ln (d + 1) (l : List (Pay × Tr d × Tr d))) sc)) (.slice la ls.length lc) ls := HLR.out.1.frame (fun b p hl => ⟨(hset b (by omega)).trans (O3.block b hl (by omega)), by omega⟩)
  have FR : RepP (fun b => w.heap.size ≤ b) ((y1.setCell ⟨w.heap.size, 0, none⟩ (.slice la ls.length lc)).setCell ⟨w.heap.size, 1, none⟩ (.slice sa (ln (d + 1) (l : List (Pay × Tr d × Tr d))) sc)) (d + 1) (.slice sa (ln (d + 1) (l : List (Pay × Tr d × Tr d))) sc) (l : List (Pay × Tr d × Tr d)) := HLR.out.2.frame (fun b p hl => ⟨(hset b (by omega)).trans (O3.block b hl (by omega)), by omega⟩)
  have own2 : ((y1.setCell ⟨w.heap.size, 0, none⟩ (.slice la ls.length lc)).setCell ⟨w.heap.size, 1, none⟩ (.slice sa (ln (d + 1) (l : List (Pay × Tr d × Tr d))) sc)).ownsRow (y0.heap.size + 1) 3 1 (.slice (some ad) zs.length nc) zs.length (zs.map (Value.int .i64)) := rowp_frame own1 (fun k hk => hset k (by have := (World.ownsRow.lt own1 k hk).1; have : y0.drew.heap.size = y0.heap.size := rfl; omega))
  have FB : Below w.heap.size w ((y1.setCell ⟨w.heap.size, 0, none⟩ (.slice la ls.length lc)).setCell ⟨w.heap.size, 1, none⟩ (.slice sa (ln (d + 1) (l : List (Pay × Tr d × Tr d))) sc)) := ((HB0.out.trans (O3.below (by omega) (by omega))).setCell (Nat.le_refl _) _).setCell (Nat.le_refl _) _
  have hk2 : ∀ o, ((y1.setCell ⟨w.heap.size, 0, none⟩ (.slice la ls.length lc)).setCell ⟨w.heap.size, 1, none⟩ (.slice sa (ln (d + 1) (l : List (Pay × Tr d × Tr d))) sc)).cell? ⟨pb, o, none⟩ = y1.cell? ⟨pb, o, none⟩ := fun o => World.cell?_of_block (hset pb (by omega))
  obtain ⟨⟨q0, q1⟩, u0, u1⟩ := id Z1
  go_simp
  generalize ((y1.setCell ⟨w.heap.size, 0, none⟩ (.slice la ls.length lc)).setCell ⟨w.heap.size, 1, none⟩ (.slice sa (ln (d + 1) (l : List (Pay × Tr d × Tr d))) sc)) = y2 at GG FL FR own2 FB hk2 ⊢
  clear q0 q1 u0 u1 Z1 hset
  refine hK.out _ _ (⟨(hk2 0).trans hHeld.1, (hk2 1).trans hHeld.2⟩) (fun hHeld => ?_)
  clear hK K
  refine' wpAnyH_take (i := 5) (v := _) rfl (by kernel_rfl) (by kernel_rfl) (by kernel_rfl) (fun _ _ _ h => h) (Or.inl ⟨by rfl, ?hy7004⟩) hHeld ?hn7004
  case hy7004 => (intro wz hSw; go_simp; first | done | with_reducible rfl)
  try simp only [List.getElem_toArray, List.getElem_cons_zero, List.getElem_cons_succ, Act.put, List.setIfInBounds_toArray, List.set_cons_zero, List.set_cons_succ]
  refine wpAnyH_done (by kernel_rfl) ?_ _
  obtain ⟨bs, go, -⟩ := row_gown own2
  have HAD : Hid (w.heap.size ≤ ad.block) := (show w.heap.size ≤ ad.block by have := (World.ownsRow.lt own2 ad.block rfl).1; omega)
  have HF : Hid (LRepP (fun b => w.heap.size ≤ b) y2 (.slice la ls.length lc) ls ∧ RepP (fun b => w.heap.size ≤ b) y2 (d + 1) (.slice sa (ln (d + 1) (l : List (Pay × Tr d × Tr d))) sc) (l : List (Pay × Tr d × Tr d)) ∧ GRep (Value.int .i64) y2 (.slice (some ad) zs.length nc) zs ∧ Below w.heap.size w y2) := ⟨FL, FR, go.rep, FB⟩
  clear hHeld rd1 ot1 own1 own2 O3 FL FR FB hk2 go z1 CN HZ2 HB0 HLR
  go_wp2
  obtain ⟨⟨q0, q1⟩, -⟩ := GG.out
  exact bodyPost_ret (v := .tuple #[.agg #[.slice la ls.length lc, .slice sa (ln (d + 1) (l : List (Pay × Tr d × Tr d))) sc], .slice (some ad) zs.length nc]) (by simp [results, Try.results31, go_sem, q0, q1]) rfl ⟨_, _, _, ls, d, l, zs, rfl, HF.out.1, HF.out.2.1, ⟨HF.out.2.2.1, ad, nc, rfl, HAD.out⟩, ll, cn, HF.out.2.2.2⟩

end Go.Proofs.Ytepacahfpbedoaa
