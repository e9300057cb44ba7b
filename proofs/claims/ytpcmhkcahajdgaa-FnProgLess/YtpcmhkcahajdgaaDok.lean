/- Programs drawn, ok or bent. -/
import Derived.Test.YtpcmhkcahajdgaaRws
import Derived.Test.YtpcmhkcahajdgaaWLs
namespace Go.Proofs.Ytpcmhkcahajdgaa
open Go.RowKit
set_option linter.unusedSimpArgs false
set_option linter.unusedVariables false
attribute [local go_sem] World.cell?_alloc_some

/-- What is wanted of l71Bent. -/
def BentOk : Prop := ∀ (w : World) (r m : Nat) (lv sv : Value) (ls : List (Int × Int)) (T : Tr 3), Rd2 w r m → m ≤ 100000 → LRep w lv ls → Rep w 3 sv T → 1 ≤ ls.length → ls.length ≤ 4 → cnt 3 T ≤ 292 →
  Calls Try.prog 66 #[.pointer (some ⟨r, 0, none⟩), .agg #[lv, sv]] w fun e w' => ∃ (lv sv : Value) (ls : List (Int × Int)) (d : Nat) (l : List (Pay × Tr d × Tr d)), e = .returned (.agg #[lv, sv]) ∧ (∀ wz : World, (∀ b, w.heap.size ≤ b → wz.heap[b]? = w'.heap[b]?) → LRep wz lv ls ∧ Rep wz (d + 1) sv (l : List (Pay × Tr d × Tr d))) ∧ cnt (d + 1) (l : List (Pay × Tr d × Tr d)) ≤ 1048576 ∧ Oth r w w'

theorem isRow_below {k : IntKind} {w w' : World} {a : Option Addr} {len cap : Nat} {zs : List Int} (h : IsRow k w a len cap zs) (hb : Below w.heap.size w w') : IsRow k w' a len cap zs := by
  rcases h with h | ⟨x, h0, h1, h2, h3, h4, h5⟩
  · exact .inl h
  · exact .inr ⟨x, h0, h1, h2, h3, fun i hi => cell_later hb (h4 i hi), h5⟩

theorem drawsOk_of (HB : BentOk) (w : World) (a0 : Option Addr) (len0 cap0 : Nat) (zs : List Int) (h : IsRow .u8 w a0 len0 cap0 zs) : DrawsOk a0 len0 cap0 w := by
  unfold DrawsOk
  have A0 : Below w.heap.size w (w.alloc (.cells #[.slice none 0 0, .slice none 0 0] 26)) := (Below.refl _ _).alloc (Nat.le_refl _) _
  have C1 : Hid _ := l6Open_any _ a0 len0 cap0 zs (isRow_below h A0)
  have Z0 := C2.new w (.slice none 0 0) (.slice none 0 0) 26
  have s0 : (w.alloc (.cells #[.slice none 0 0, .slice none 0 0] 26)).heap.size = w.heap.size + 1 := by simp
  have HZ0 : Hid (C2 (w.alloc (.cells #[.slice none 0 0, .slice none 0 0] 26)) w.heap.size (.slice none 0 0) (.slice none 0 0)) := Z0
  have HA0 : Hid (Below w.heap.size w (w.alloc (.cells #[.slice none 0 0, .slice none 0 0] 26))) := A0
  have HBH : Hid BentOk := HB
  clear A0 Z0 HB h
  go_enter Try.func19, Try.ntmps19
  go_wp2_with fail
  go_at_call 63; refine Calls.mono C1.out ?_
  rintro e w1 ⟨rfl, rd1, sz1, hb1⟩
  have B1 : Below w.heap.size w w1 := Below.then HA0.out hb1 (by omega)
  have Z1 : C2 w1 w.heap.size (.slice none 0 0) (.slice none 0 0) := HZ0.out.same (hb1.block _ (by omega))
  rw [s0] at rd1 sz1 ⊢
  have P1 : Hid _ := l71Prog_any w1 (w.heap.size + 1) 0 ⟨0, by omega, rd1⟩ (by omega)
  have HB1 : Hid (Below w.heap.size w w1) := B1
  have HZ1 : Hid (C2 w1 w.heap.size (.slice none 0 0) (.slice none 0 0)) := Z1
  clear hb1 B1 Z1 HZ0 HA0 C1 rd1
  go_wp2_with fail
  go_at_call 64; refine Calls.mono P1.out ?_
  rintro e w2 ⟨lv, sv, ls, T, b1, b2, rfl, rd2, ot2, lo2, ow2, rg2, l1, l4, hc⟩
  obtain ⟨la, lc, rfl⟩ : ∃ a c, lv = .slice a ls.length c := by
    obtain ⟨a, c, h, _⟩ := lo2.rep
    exact ⟨a, c, h⟩
  obtain ⟨sa, sc, rfl⟩ := ow2.slice
  have s2 : w1.heap.size ≤ w2.heap.size := ot2.size
  have A3 : Below w2.heap.size w2 (w2.alloc (.cells #[.slice la ls.length lc, .slice sa (ln 3 T) sc] 26)) := (Below.refl _ _).alloc (Nat.le_refl _) _
  have P3 : Hid _ := pick2 _ (w.heap.size + 1) _ 2 (rd2.oth A3) (by omega) (by omega) (by omega)
  have X3 := C2.new w2 (.slice la ls.length lc) (.slice sa (ln 3 T) sc) 26
  have s3 : (w2.alloc (.cells #[.slice la ls.length lc, .slice sa (ln 3 T) sc] 26)).heap.size = w2.heap.size + 1 := by simp
  have HX3 : Hid (C2 (w2.alloc (.cells #[.slice la ls.length lc, .slice sa (ln 3 T) sc] 26)) w2.heap.size (.slice la ls.length lc) (.slice sa (ln 3 T) sc)) := X3
  have HA3 : Hid (Below w2.heap.size w2 (w2.alloc (.cells #[.slice la ls.length lc, .slice sa (ln 3 T) sc] 26))) := A3
  have HLO : Hid (LOwn w2 (.slice la ls.length lc) ls b1) := lo2
  have HOW : Hid (Own w2 3 (.slice sa (ln 3 T) sc) T b2) := ow2
  have HOT : Hid (Oth (w.heap.size + 1) w1 w2) := ot2
  have HRG : Hid _ := rg2
  clear A3 X3 rd2 ot2 lo2 ow2 rg2 P1
  go_wp2_with fail
  go_at_call 65; refine Calls.mono P3.out ?_
  rintro e w4 ⟨k, rfl, k0, k2, rd4, ot4⟩
  have s4 : w2.heap.size + 1 ≤ w4.heap.size := by have := ot4.size; omega
  have X4 : C2 w4 w2.heap.size (.slice la ls.length lc) (.slice sa (ln 3 T) sc) := HX3.out.oth ot4 (by omega)
  have bk : ∀ b, b < w2.heap.size → b ≠ w.heap.size + 1 → w4.heap[b]? = w2.heap[b]? := fun b hb hr => (ot4.block b (by omega) hr).trans (HA3.out.block b hb)
  have L4 : LRep w4 (.slice la ls.length lc) ls := (HLO.out.frame fun b hb => bk b (HRG.out b (List.mem_append_left _ hb)).2 (by have := (HRG.out b (List.mem_append_left _ hb)).1; omega)).rep
  have R4 : Rep w4 3 (.slice sa (ln 3 T) sc) T := (HOW.out.frame fun b hb => bk b (HRG.out b (List.mem_append_right _ hb)).2 (by have := (HRG.out b (List.mem_append_right _ hb)).1; omega)).rep
  have K4 : Hid (∀ wz : World, (∀ b, w1.heap.size ≤ b → wz.heap[b]? = w4.heap[b]?) → LRep wz (.slice la ls.length lc) ls ∧ Rep wz 3 (.slice sa (ln 3 T) sc) T) := (show ∀ wz : World, _ from fun wz hz =>
    ⟨(HLO.out.frame fun b hb => by have := HRG.out b (List.mem_append_left _ hb); exact (hz b this.1).trans (bk b this.2 (by omega))).rep, (HOW.out.frame fun b hb => by have := HRG.out b (List.mem_append_right _ hb); exact (hz b this.1).trans (bk b this.2 (by omega))).rep⟩)
  have O4 : Oth (w.heap.size + 1) w1 w4 := HOT.out.trans ((Oth.of_below HA3.out).trans ot4)
  have Z4 : C2 w4 w.heap.size (.slice none 0 0) (.slice none 0 0) := HZ1.out.oth O4 (by omega)
  have B4 : Below w.heap.size w w4 := HB1.out.trans (O4.below (by omega) (by omega))
  have HO4 : Hid _ := O4
  have HZ4 : Hid (C2 w4 w.heap.size (.slice none 0 0) (.slice none 0 0)) := Z4
  have HB4 : Hid (Below w.heap.size w w4) := B4
  have HL4 : Hid _ := L4
  have HR4 : Hid _ := R4
  have BE : Hid _ := HBH.out w4 (w.heap.size + 1) _ _ _ ls T rd4 (by omega) L4 R4 l1 l4 hc
  obtain ⟨⟨x0, x1⟩, y0, y1⟩ := X4
  obtain ⟨⟨z0, z1⟩, u0, u1⟩ := Z4
  clear bk L4 R4 O4 B4 ot4 rd4 HX3 HA3 HLO HOW HOT HRG P3 HZ1 HB1 HBH
  by_cases hk : k = 0
  · subst hk
    go_wp2_with fail
    go_at_call 66; refine Calls.mono BE.out ?_
    rintro e w5 ⟨lv, sv, ls', d, l, rfl, lr5, hc5, ot5⟩
    obtain ⟨la', lc', rfl, _⟩ := (lr5 w5 (fun _ _ => rfl)).1
    obtain ⟨sa', sc', rfl, _⟩ := (lr5 w5 (fun _ _ => rfl)).2
    have Z5 : C2 w5 w.heap.size (.slice none 0 0) (.slice none 0 0) := HZ4.out.oth ot5 (by omega)
    have HZ5 : Hid (C2 w5 w.heap.size (.slice none 0 0) (.slice none 0 0)) := Z5
    have B5 : Hid (Below w.heap.size w w5) := HB4.out.trans (ot5.below (by omega) (by omega))
    have HL5 : Hid _ := lr5
    clear x0 x1 y0 y1 z0 z1 u0 u1 ot5 lr5 BE
    obtain ⟨⟨z0, z1⟩, u0, u1⟩ := Z5
    go_wp2
    have AF := (HZ5.out.set0 (.slice la' ls'.length lc')).set1 (.slice sa' l.length sc')
    have LR := HL5.out ((w5.setCell ⟨w.heap.size, 0, none⟩ (.slice la' ls'.length lc')).setCell ⟨w.heap.size, 1, none⟩ (.slice sa' l.length sc')) (fun b hb => (Below.heap_setCell _ _ _ _ (by show b ≠ w.heap.size; omega)).trans (Below.heap_setCell _ _ _ _ (by show b ≠ w.heap.size; omega)))
    have BF : Below w.heap.size w ((w5.setCell ⟨w.heap.size, 0, none⟩ (.slice la' ls'.length lc')).setCell ⟨w.heap.size, 1, none⟩ (.slice sa' l.length sc')) := (B5.out.setCell (Nat.le_refl _) _).setCell (Nat.le_refl _) _
    generalize ((w5.setCell ⟨w.heap.size, 0, none⟩ (.slice la' ls'.length lc')).setCell ⟨w.heap.size, 1, none⟩ (.slice sa' l.length sc')) = wf at *
    obtain ⟨⟨c0, c1⟩, -⟩ := AF
    exact bodyPost_ret (v := .agg #[.slice la' ls'.length lc', .slice sa' l.length sc']) (by simp [results, Try.results19, go_sem, c0, c1]) rfl ⟨_, _, ls', d, l, rfl, LR.1, LR.2, hc5, BF⟩
  · have hk1 : k = 1 := by omega
    subst hk1
    clear BE
    go_wp2
    have AF := (HZ4.out.set0 (.slice la ls.length lc)).set1 (.slice sa (ln 3 T) sc)
    have LR := K4.out ((w4.setCell ⟨w.heap.size, 0, none⟩ (.slice la ls.length lc)).setCell ⟨w.heap.size, 1, none⟩ (.slice sa (ln 3 T) sc)) (fun b hb => (Below.heap_setCell _ _ _ _ (by show b ≠ w.heap.size; omega)).trans (Below.heap_setCell _ _ _ _ (by show b ≠ w.heap.size; omega)))
    have BF : Below w.heap.size w ((w4.setCell ⟨w.heap.size, 0, none⟩ (.slice la ls.length lc)).setCell ⟨w.heap.size, 1, none⟩ (.slice sa (ln 3 T) sc)) := (HB4.out.setCell (Nat.le_refl _) _).setCell (Nat.le_refl _) _
    generalize ((w4.setCell ⟨w.heap.size, 0, none⟩ (.slice la ls.length lc)).setCell ⟨w.heap.size, 1, none⟩ (.slice sa (ln 3 T) sc)) = wf at *
    obtain ⟨⟨c0, c1⟩, -⟩ := AF
    exact bodyPost_ret (v := .agg #[.slice la ls.length lc, .slice sa (ln 3 T) sc]) (by simp [results, Try.results19, go_sem, c0, c1]) rfl ⟨_, _, ls, 2, T, rfl, LR.1, LR.2, by show cnt 3 T ≤ _; omega, BF⟩

end Go.Proofs.Ytpcmhkcahajdgaa
