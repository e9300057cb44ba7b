/- A program that laws draw, fine or any. -/
import Derived.Test.YtkgblkbgebpejaaGreatDoorAnx
import Derived.Test.YtkgblkbgebpejaaGreatDoorDpr
namespace Go.Proofs.YtkgblkbgebpejaaGreatDoor
open Go.RowKit
set_option linter.unusedSimpArgs false
set_option linter.unusedVariables false
attribute [local go_sem ↓] Go.wp_at_zero Go.wp_at_succ
attribute [local go_sem] World.cell?_alloc_some

theorem isRow_onW {k : IntKind} {w w' : World} {a : Option Addr} {len cap : Nat} {zs : List Int} (h : IsRow k w a len cap zs) (hb : Below w.heap.size w w') : IsRow k w' a len cap zs := by
  rcases h with h | ⟨x, h0, h1, h2, h3, h4, h5⟩
  · exact .inl h
  · exact .inr ⟨x, h0, h1, h2, h3, fun i hi => cell_later hb (h4 i hi), h5⟩
/-- What is drawn: a program. -/
def DwP (w : World) (e : Ending) (w' : World) : Prop := ∃ (la sa : Option Addr) (lc sc : Nat) (ls : List (Int × Int)) (d : Nat) (l : List (Pay × Tr d × Tr d)), e = .returned (.agg #[.slice la ls.length lc, .slice sa (ln (d + 1) (l : List (Pay × Tr d × Tr d))) sc]) ∧ LRep w' (.slice la ls.length lc) ls ∧ Rep w' (d + 1) (.slice sa (ln (d + 1) (l : List (Pay × Tr d × Tr d))) sc) (l : List (Pay × Tr d × Tr d)) ∧ cnt (d + 1) (l : List (Pay × Tr d × Tr d)) ≤ 400 ∧ Below w.heap.size w w'

set_option maxHeartbeats 4000000 in
theorem drawTypeWhy_any (w : World) (a0 : Option Addr) (len0 cap0 : Nat) (zs : List Int) (h : IsRow .u8 w a0 len0 cap0 zs) : Calls Tryz.prog 6 #[.slice a0 len0 cap0] w (DwP w) := by
  have A0 : Below w.heap.size w (w.alloc (.cells #[.slice none 0 0, .slice none 0 0] 26)) := (Below.refl _ _).alloc (Nat.le_refl _) _
  have C1 : Hid _ := l6Open_any _ a0 len0 cap0 zs (isRow_onW h A0)
  have Z0 := C2.new w (.slice none 0 0) (.slice none 0 0) 26
  have s0 : (w.alloc (.cells #[.slice none 0 0, .slice none 0 0] 26)).heap.size = w.heap.size + 1 := by simp
  have HZ0 : Hid (C2 (w.alloc (.cells #[.slice none 0 0, .slice none 0 0] 26)) w.heap.size (.slice none 0 0) (.slice none 0 0)) := Z0
  have HA0 : Hid (Below w.heap.size w (w.alloc (.cells #[.slice none 0 0, .slice none 0 0] 26))) := A0
  clear A0 Z0 h
  go_enter Tryz.func6, Tryz.ntmps6
  go_wp2_with fail
  go_at_call 19; refine Calls.mono C1.out ?_
  rintro e w1 ⟨rfl, rd1, sz1, hb1⟩
  have B1 : Below w.heap.size w w1 := Below.then HA0.out hb1 (by omega)
  have Z1 : C2 w1 w.heap.size (.slice none 0 0) (.slice none 0 0) := HZ0.out.same (hb1.block _ (by omega))
  rw [s0] at rd1 sz1 ⊢
  have PK : Hid _ := pick_r w1 (w.heap.size + 1) 0 2 rd1 (by omega) (by omega) (by omega)
  have HB1 : Hid (Below w.heap.size w w1) := B1
  have HZ1 : Hid (C2 w1 w.heap.size (.slice none 0 0) (.slice none 0 0)) := Z1
  clear hb1 B1 Z1 HZ0 HA0 C1 rd1
  go_wp2_with fail
  go_at_call 20; refine Calls.mono PK.out ?_
  rintro e w2 ⟨k, rfl, k0, k1, rd2, ot1⟩
  have Z2 : C2 w2 w.heap.size (.slice none 0 0) (.slice none 0 0) := HZ1.out.oth ot1 (by omega)
  have HB2 : Hid (Below w.heap.size w w2) := HB1.out.trans (ot1.below (by omega) (by omega))
  have PA : Hid _ := l71Any_any w2 (w.heap.size + 1) 1 ⟨1, by omega, rd2⟩ (by omega)
  have PP : Hid _ := l71Prog_any w2 (w.heap.size + 1) 1 ⟨1, by omega, rd2⟩ (by omega)
  have HZ2 : Hid (C2 w2 w.heap.size (.slice none 0 0) (.slice none 0 0)) := Z2
  have z21 : w.heap.size < w2.heap.size := by have := HB2.out.size; have := World.block_lt_of_cell? _ _ Z2.1.1; omega
  clear rd2 ot1 Z2 HZ1 HB1 PK
  by_cases hk : k = 0
  · subst hk
    go_wp2_with fail
    go_at_call 21; refine Calls.mono PP.out ?_
    rintro e w3 ⟨lv, sv, ls, T, b1, b2, rfl, -, ot2, oL, oR, rg, -, -, cn⟩
    have Z3 : C2 w3 w.heap.size (.slice none 0 0) (.slice none 0 0) := HZ2.out.oth ot2 (by omega)
    have HB3 : Hid (Below w.heap.size w w3) := HB2.out.trans (ot2.below (by omega) (by omega))
    obtain ⟨la, lc, rfl, -⟩ := id oL.rep
    obtain ⟨sa, sc, rfl⟩ := oR.slice
    have hset : ∀ b, b ≠ w.heap.size → ((w3.setCell ⟨w.heap.size, 0, none⟩ (.slice la ls.length lc)).setCell ⟨w.heap.size, 1, none⟩ (.slice sa (ln 3 T) sc)).heap[b]? = w3.heap[b]? := fun b hb => (Below.heap_setCell _ _ _ _ hb).trans (Below.heap_setCell _ _ _ _ hb)
    have HL : Hid (LRep ((w3.setCell ⟨w.heap.size, 0, none⟩ (.slice la ls.length lc)).setCell ⟨w.heap.size, 1, none⟩ (.slice sa (ln 3 T) sc)) (.slice la ls.length lc) ls) := (LOwn.frame (fun b hb => hset b (by have := rg b (List.mem_append_left _ hb); omega)) oL).rep
    have HR : Hid (Rep ((w3.setCell ⟨w.heap.size, 0, none⟩ (.slice la ls.length lc)).setCell ⟨w.heap.size, 1, none⟩ (.slice sa (ln 3 T) sc)) 3 (.slice sa (ln 3 T) sc) T) := (Own.frame (fun b hb => hset b (by have := rg b (List.mem_append_right _ hb); omega)) oR).rep
    have GG : Hid _ := (C2.set0 (.slice la ls.length lc) Z3).set1 (.slice sa (ln 3 T) sc)
    obtain ⟨⟨z0, z1⟩, u0, u1⟩ := Z3
    clear oL oR rg ot2 hset HZ2 HB2 PA PP
    go_wp2
    obtain ⟨⟨q0, q1⟩, -⟩ := GG.out
    exact bodyPost_ret (v := .agg #[.slice la ls.length lc, .slice sa (ln 3 T) sc]) (by simp [results, Tryz.results6, go_sem, q0, q1]) rfl ⟨_, _, _, _, ls, 2, T, rfl, HL.out, HR.out, (show cnt 3 T ≤ 400 by omega), (HB3.out.setCell (Nat.le_refl _) _).setCell (Nat.le_refl _) _⟩
  · go_wp2_with fail
    go_at_call 22; refine Calls.mono PA.out ?_
    rintro e w3 ⟨lv, sv, ls, d, l, rfl, hL, hR, ll, cn, rd2, ot2⟩
    have Z3 : C2 w3 w.heap.size (.slice none 0 0) (.slice none 0 0) := HZ2.out.oth ot2 (by omega)
    have HB3 : Hid (Below w.heap.size w w3) := HB2.out.trans (ot2.below (by omega) (by omega))
    obtain ⟨la, lc, rfl, -⟩ := hL.rep
    obtain ⟨sa, sc, rfl⟩ := hR.slice
    have hset : ∀ b, b ≠ w.heap.size → ((w3.setCell ⟨w.heap.size, 0, none⟩ (.slice la ls.length lc)).setCell ⟨w.heap.size, 1, none⟩ (.slice sa (ln (d + 1) (l : List (Pay × Tr d × Tr d))) sc)).heap[b]? = w3.heap[b]? := fun b hb => (Below.heap_setCell _ _ _ _ hb).trans (Below.heap_setCell _ _ _ _ hb)
    have HF : Hid (LRepP (fun b => w2.heap.size ≤ b) ((w3.setCell ⟨w.heap.size, 0, none⟩ (.slice la ls.length lc)).setCell ⟨w.heap.size, 1, none⟩ (.slice sa (ln (d + 1) (l : List (Pay × Tr d × Tr d))) sc)) (.slice la ls.length lc) ls ∧ RepP (fun b => w2.heap.size ≤ b) ((w3.setCell ⟨w.heap.size, 0, none⟩ (.slice la ls.length lc)).setCell ⟨w.heap.size, 1, none⟩ (.slice sa (ln (d + 1) (l : List (Pay × Tr d × Tr d))) sc)) (d + 1) (.slice sa (ln (d + 1) (l : List (Pay × Tr d × Tr d))) sc) (l : List (Pay × Tr d × Tr d))) :=
      ⟨hL.frame (fun b p hl => ⟨hset b (by omega), by omega⟩), hR.frame (fun b p hl => ⟨hset b (by omega), by omega⟩)⟩
    have GG : Hid _ := (C2.set0 (.slice la ls.length lc) Z3).set1 (.slice sa (ln (d + 1) (l : List (Pay × Tr d × Tr d))) sc)
    obtain ⟨⟨z0, z1⟩, u0, u1⟩ := Z3
    clear hL hR rd2 ot2 hset HZ2 HB2 PA PP
    go_wp2
    obtain ⟨⟨q0, q1⟩, -⟩ := GG.out
    exact bodyPost_ret (v := .agg #[.slice la ls.length lc, .slice sa (ln (d + 1) (l : List (Pay × Tr d × Tr d))) sc]) (by simp [results, Tryz.results6, go_sem, q0, q1]) rfl ⟨_, _, _, _, ls, d, l, rfl, HF.out.1.rep, HF.out.2.rep, cn, (HB3.out.setCell (Nat.le_refl _) _).setCell (Nat.le_refl _) _⟩

end Go.Proofs.YtkgblkbgebpejaaGreatDoor
