/- The step with a number: of the program, and of the model. -/
import Derived.Test.YtpmhkhajahoaaaaDoorCpx
import Derived.Test.YtpmhkhajahoaaaaDoorImp
namespace Go.Proofs.YtpmhkhajahoaaaaDoor
open Go.RowKit
set_option linter.unusedSimpArgs false
set_option linter.unusedVariables false
attribute [local go_sem] World.cell?_alloc_some

theorem st8_c8 {w : World} {g : Nat} {v0 v1 v2 v3 v4 v5 v6 v7 : Value} (h : C8 w g v0 v1 v2 v3 v4 v5 v6 v7) (u0 u1 u2 u3 u4 u5 u6 u7 : Value) : C8 ((((((((w.setCell ⟨g, 0, none⟩ u0).setCell ⟨g, 1, none⟩ u1).setCell ⟨g, 2, none⟩ u2).setCell ⟨g, 3, none⟩ u3).setCell ⟨g, 4, none⟩ u4).setCell ⟨g, 5, none⟩ u5).setCell ⟨g, 6, none⟩ u6).setCell ⟨g, 7, none⟩ u7) g u0 u1 u2 u3 u4 u5 u6 u7 :=
  (((((((h.set0 u0).set1 u1).set2 u2).set3 u3).set4 u4).set5 u5).set6 u6).set7 u7
theorem st8_heap (w : World) (g b : Nat) (hb : b ≠ g) (u0 u1 u2 u3 u4 u5 u6 u7 : Value) : ((((((((w.setCell ⟨g, 0, none⟩ u0).setCell ⟨g, 1, none⟩ u1).setCell ⟨g, 2, none⟩ u2).setCell ⟨g, 3, none⟩ u3).setCell ⟨g, 4, none⟩ u4).setCell ⟨g, 5, none⟩ u5).setCell ⟨g, 6, none⟩ u6).setCell ⟨g, 7, none⟩ u7).heap[b]? = w.heap[b]? := by
  rw [Below.heap_setCell _ _ _ _ hb, Below.heap_setCell _ _ _ _ hb, Below.heap_setCell _ _ _ _ hb, Below.heap_setCell _ _ _ _ hb, Below.heap_setCell _ _ _ _ hb, Below.heap_setCell _ _ _ _ hb, Below.heap_setCell _ _ _ _ hb, Below.heap_setCell _ _ _ _ hb]
theorem st8_size (w : World) (g : Nat) (u0 u1 u2 u3 u4 u5 u6 u7 : Value) : ((((((((w.setCell ⟨g, 0, none⟩ u0).setCell ⟨g, 1, none⟩ u1).setCell ⟨g, 2, none⟩ u2).setCell ⟨g, 3, none⟩ u3).setCell ⟨g, 4, none⟩ u4).setCell ⟨g, 5, none⟩ u5).setCell ⟨g, 6, none⟩ u6).setCell ⟨g, 7, none⟩ u7).heap.size = w.heap.size := by simp [World.setCell]
theorem st8_below {B : Nat} {a w : World} {g : Nat} (h : Below B a w) (hg : B ≤ g) (u0 u1 u2 u3 u4 u5 u6 u7 : Value) : Below B a ((((((((w.setCell ⟨g, 0, none⟩ u0).setCell ⟨g, 1, none⟩ u1).setCell ⟨g, 2, none⟩ u2).setCell ⟨g, 3, none⟩ u3).setCell ⟨g, 4, none⟩ u4).setCell ⟨g, 5, none⟩ u5).setCell ⟨g, 6, none⟩ u6).setCell ⟨g, 7, none⟩ u7) :=
  (((((((h.setCell (p := ⟨g, 0, none⟩) hg u0).setCell (p := ⟨g, 1, none⟩) hg u1).setCell (p := ⟨g, 2, none⟩) hg u2).setCell (p := ⟨g, 3, none⟩) hg u3).setCell (p := ⟨g, 4, none⟩) hg u4).setCell (p := ⟨g, 5, none⟩) hg u5).setCell (p := ⟨g, 6, none⟩) hg u6).setCell (p := ⟨g, 7, none⟩) hg u7
theorem mem_le_sum : ∀ {l : List Nat} {n : Nat}, n ∈ l → n ≤ l.sum
  | x :: l, n, h => by
    rcases List.mem_cons.1 h with rfl | h
    · simp
    · have := mem_le_sum h; simp; omega
theorem FlatR.get {W : World} : ∀ {fs : List Sg} {xs : List Value} {q : Nat} {x : Sg}, FlatR W fs xs → fs[q]? = some x → ∃ t e, (∀ j, j < 8 → xs[q * 8 + j]? = (cells8 x.2.1 t e)[j]?) ∧ Rep W x.1 t x.2.2.1 ∧ Rep W x.1 e x.2.2.2
  | [], _, _, _, _, hx => by simp at hx
  | y :: fs, xs, 0, x, h, hx => by
    obtain ⟨t, e, ys, rfl, r1, r2, h⟩ := h
    have : y = x := by simpa using hx
    subst this
    refine ⟨t, e, fun j hj => ?_, r1, r2⟩
    rw [List.getElem?_append_left (by simp [cells8]; omega), Nat.zero_mul, Nat.zero_add]
  | y :: fs, xs, q + 1, x, h, hx => by
    obtain ⟨t, e, ys, rfl, r1, r2, h⟩ := h
    obtain ⟨t', e', h1, h2, h3⟩ := FlatR.get h (by simpa using hx)
    refine ⟨t', e', fun j hj => ?_, h2, h3⟩
    rw [List.getElem?_append_right (by simp [cells8]; omega), ← h1 j hj]
    congr 1
    simp [cells8]; omega
theorem flat_cnt : ∀ (d : Nat) (T : Tr d) (x : Sg), x ∈ flat d T → cnt x.1 x.2.2.1 + cnt x.1 x.2.2.2 + 1 ≤ cnt d T
  | 0, _, _, h => by cases h
  | d + 1, (l : List (Pay × Tr d × Tr d)), x, h => by
    obtain ⟨y, hy, hx⟩ := List.mem_flatMap.1 h
    have h1 : 1 + cnt d y.2.1 + cnt d y.2.2 ≤ cnt (d + 1) (l : List (Pay × Tr d × Tr d)) := by
      show 1 + cnt d y.2.1 + cnt d y.2.2 ≤ (l.map fun x => 1 + cnt d x.2.1 + cnt d x.2.2).sum
      exact mem_le_sum (List.mem_map.2 ⟨y, hy, rfl⟩)
    rcases List.mem_cons.1 hx with rfl | hx
    · show cnt d y.2.1 + cnt d y.2.2 + 1 ≤ _; omega
    · rcases List.mem_append.1 hx with hx | hx
      · have := flat_cnt d _ x hx; omega
      · have := flat_cnt d _ x hx; omega
theorem row_cells {w : World} {base : Nat} {e : TypeId} {g n c : Nat} {ys : List Value} (h : w.ownsRow base e 8 (.slice (some ⟨g, 0, none⟩) n c) n ys) {q : Nat} {p : Pay} {t u : Value} (hq : ∀ j, j < 8 → ys[q * 8 + j]? = (cells8 p t u)[j]?) : StepAt w g (q * 8) p t u := range8 (rows_range h hq rfl)

def zeroStep : Value := .agg #[.int .i64 0, .int .i64 0, .int .i64 0, .int .i64 0, .int .i64 0, .int .i64 0, .slice none 0 0, .slice none 0 0]
def stepOf (p : Pay) (t e : Value) : Value := .agg #[.int .i64 p.k, .int .i64 p.v, .int .i64 p.vk, .int .i64 p.va, .int .i64 p.vb, .int .i64 p.h, t, e]
/-- What ProgAt answers. -/
def AtPost (w : World) (ls : List (Int × Int)) (d : Nat) (T : Tr d) (n : Int) (e : Ending) (w' : World) : Prop := Below w.heap.size w w' ∧
  (((progB ls d T && vIn (cnt d T) n) = true ∧ ∃ (x : Sg) (t' e' : Value) (b1 b2 : List Nat), (flat d T)[n.toNat]? = some x ∧ e = .returned (.tuple #[stepOf x.2.1 t' e', .bool true]) ∧ Own w' x.1 t' x.2.2.1 b1 ∧ Own w' x.1 e' x.2.2.2 b2 ∧ (∀ b ∈ b1 ++ b2, w.heap.size ≤ b ∧ b < w'.heap.size) ∧ (b1 ++ b2).Nodup) ∨
   ((progB ls d T && vIn (cnt d T) n) = false ∧ e = .returned (.tuple #[zeroStep, .bool false])))

set_option maxHeartbeats 4000000 in
theorem progAt_any {d : Nat} {T : Tr d} {lv sv : Value} {ls : List (Int × Int)} {w : World} (n : Int) (hL : LRep w lv ls) (hR : Rep w d sv T) :
    Calls Tryd.prog 30 #[.agg #[lv, sv], .int .i64 n] w (AtPost w ls d T n) := by
  have Z8 := C8.new (w.alloc (.cells #[lv, sv] 26)) (.int .i64 0) (.int .i64 0) (.int .i64 0) (.int .i64 0) (.int .i64 0) (.int .i64 0) (.slice none 0 0) (.slice none 0 0) 43
  rw [show (w.alloc (.cells #[lv, sv] 26)).heap.size = w.heap.size + 1 by simp] at Z8
  have A : Below w.heap.size w ((w.alloc (.cells #[lv, sv] 26)).alloc (.cells #[.int .i64 0, .int .i64 0, .int .i64 0, .int .i64 0, .int .i64 0, .int .i64 0, .slice none 0 0, .slice none 0 0] 43)) := ((Below.refl _ _).alloc (Nat.le_refl _) _).alloc (by simp) _
  have C1 : Hid _ := counted_any (hL.below A) (hR.below A)
  obtain ⟨la, lc, rfl, -⟩ := hL
  obtain ⟨sa, sc, rfl⟩ := hR.slice
  clear hR
  have HZ8 : Hid _ := Z8
  clear Z8
  unfold AtPost
  go_enter Tryd.func30, Tryd.ntmps30
  go_wp2_with fail
  go_at_call 53; refine Calls.mono C1.out ?_
  rintro e w1 ⟨hb1, ⟨ok, v', xs', rfl, own, fl⟩ | ⟨no, rfl⟩⟩
  case inr =>
    have B1 : Below w.heap.size w w1 := Below.then A hb1 (by simp; omega)
    have Z1 := C8.below HZ8.out hb1
    have HZ : Hid (C8 w1 (w.heap.size + 1) (.int .i64 0) (.int .i64 0) (.int .i64 0) (.int .i64 0) (.int .i64 0) (.int .i64 0) (.slice none 0 0) (.slice none 0 0)) := Z1
    have HNO : Hid _ := no
    obtain ⟨⟨x0, x1, x2, x3, x4, x5, x6, x7⟩, y0, y1, y2, y3, y4, y5, y6, y7⟩ := Z1
    clear no hb1 A C1
    go_wp2
    have AF := st8_c8 HZ.out (.int .i64 0) (.int .i64 0) (.int .i64 0) (.int .i64 0) (.int .i64 0) (.int .i64 0) (.slice none 0 0) (.slice none 0 0)
    have BF := st8_below B1 (show w.heap.size ≤ w.heap.size + 1 by omega) (.int .i64 0) (.int .i64 0) (.int .i64 0) (.int .i64 0) (.int .i64 0) (.int .i64 0) (.slice none 0 0) (.slice none 0 0)
    have HF := fun b hb => st8_heap w1 (w.heap.size + 1) b hb (.int .i64 0) (.int .i64 0) (.int .i64 0) (.int .i64 0) (.int .i64 0) (.int .i64 0) (.slice none 0 0) (.slice none 0 0)
    have SF := st8_size w1 (w.heap.size + 1) (.int .i64 0) (.int .i64 0) (.int .i64 0) (.int .i64 0) (.int .i64 0) (.int .i64 0) (.slice none 0 0) (.slice none 0 0)
    generalize ((((((((w1.setCell ⟨w.heap.size + 1, 0, none⟩ (.int .i64 0)).setCell ⟨w.heap.size + 1, 1, none⟩ (.int .i64 0)).setCell ⟨w.heap.size + 1, 2, none⟩ (.int .i64 0)).setCell ⟨w.heap.size + 1, 3, none⟩ (.int .i64 0)).setCell ⟨w.heap.size + 1, 4, none⟩ (.int .i64 0)).setCell ⟨w.heap.size + 1, 5, none⟩ (.int .i64 0)).setCell ⟨w.heap.size + 1, 6, none⟩ (.slice none 0 0)).setCell ⟨w.heap.size + 1, 7, none⟩ (.slice none 0 0)) = wf at *
    obtain ⟨⟨c0, c1, c2, c3, c4, c5, c6, c7⟩, _⟩ := AF
    refine bodyPost_ret (v := .tuple #[zeroStep, .bool false]) (by simp [results, Tryd.results30, go_sem, stepOf, zeroStep, c0, c1, c2, c3, c4, c5, c6, c7]) rfl ⟨BF, .inr ⟨by rw [HNO.out]; rfl, rfl⟩⟩
  have B1 : Below w.heap.size w w1 := Below.then A hb1 (by simp; omega)
  have s1 : w.heap.size + 1 < w1.heap.size := by have := hb1.size; simp at this; omega
  have Z1 := C8.below HZ8.out hb1
  have HZ : Hid (C8 w1 (w.heap.size + 1) (.int .i64 0) (.int .i64 0) (.int .i64 0) (.int .i64 0) (.int .i64 0) (.int .i64 0) (.slice none 0 0) (.slice none 0 0)) := Z1
  have HOK : Hid (progB ls d T = true) := ok
  have hc8 : cnt d T ≤ 8 := by
    have := ok
    simp [progB] at this
    omega
  obtain ⟨⟨x0, x1, x2, x3, x4, x5, x6, x7⟩, y0, y1, y2, y3, y4, y5, y6, y7⟩ := Z1
  cases hv : vIn (cnt d T) n
  · obtain ⟨ga, gc, rfl⟩ := row_slice own
    clear own fl ok hb1 A C1
    go_wp2_with (first | (go_at_call 61; refine (isBelow_any _ _ _).mono ?_; rintro e w2 ⟨rfl, hw2⟩; subst w2; rw [hv]))
    have AF := st8_c8 HZ.out (.int .i64 0) (.int .i64 0) (.int .i64 0) (.int .i64 0) (.int .i64 0) (.int .i64 0) (.slice none 0 0) (.slice none 0 0)
    have BF := st8_below B1 (show w.heap.size ≤ w.heap.size + 1 by omega) (.int .i64 0) (.int .i64 0) (.int .i64 0) (.int .i64 0) (.int .i64 0) (.int .i64 0) (.slice none 0 0) (.slice none 0 0)
    have HF := fun b hb => st8_heap w1 (w.heap.size + 1) b hb (.int .i64 0) (.int .i64 0) (.int .i64 0) (.int .i64 0) (.int .i64 0) (.int .i64 0) (.slice none 0 0) (.slice none 0 0)
    have SF := st8_size w1 (w.heap.size + 1) (.int .i64 0) (.int .i64 0) (.int .i64 0) (.int .i64 0) (.int .i64 0) (.int .i64 0) (.slice none 0 0) (.slice none 0 0)
    generalize ((((((((w1.setCell ⟨w.heap.size + 1, 0, none⟩ (.int .i64 0)).setCell ⟨w.heap.size + 1, 1, none⟩ (.int .i64 0)).setCell ⟨w.heap.size + 1, 2, none⟩ (.int .i64 0)).setCell ⟨w.heap.size + 1, 3, none⟩ (.int .i64 0)).setCell ⟨w.heap.size + 1, 4, none⟩ (.int .i64 0)).setCell ⟨w.heap.size + 1, 5, none⟩ (.int .i64 0)).setCell ⟨w.heap.size + 1, 6, none⟩ (.slice none 0 0)).setCell ⟨w.heap.size + 1, 7, none⟩ (.slice none 0 0)) = wf at *
    obtain ⟨⟨c0, c1, c2, c3, c4, c5, c6, c7⟩, _⟩ := AF
    refine bodyPost_ret (v := .tuple #[zeroStep, .bool false]) (by simp [results, Tryd.results30, go_sem, stepOf, zeroStep, c0, c1, c2, c3, c4, c5, c6, c7]) rfl ⟨BF, .inr ⟨by rw [HOK.out, hv]; rfl, rfl⟩⟩
  · have hn : 0 ≤ n ∧ n < cnt d T := by simpa [vIn] using hv
    obtain ⟨q, rfl⟩ : ∃ q : Nat, n = q := ⟨n.toNat, by omega⟩
    have hq : q < cnt d T := by omega
    have hql : q < (flat d T).length := by rw [flat_length]; exact hq
    obtain ⟨⟨k, p, T1, T2⟩, hx⟩ : ∃ x, (flat d T)[q]? = some x := ⟨_, List.getElem?_eq_getElem hql⟩
    obtain ⟨t, e, hcs, r1, r2⟩ := FlatR.get fl hx
    dsimp only at hcs r1 r2
    have hcn := flat_cnt d T _ (List.mem_of_getElem? hx)
    dsimp only at hcn
    obtain ⟨ta, tc, rfl⟩ := r1.slice
    obtain ⟨ea, ec, rfl⟩ := r2.slice
    have hnz : v' ≠ .slice none 0 0 := by
      rintro rfl
      obtain ⟨_, ⟨_, h0⟩ | ⟨g, cap, cur, hv', _⟩⟩ := own
      · omega
      · cases hv'
    obtain ⟨g, gc, rfl, hg0, hg1⟩ := row_some own hnz
    have hw1 := Below.then A hb1 (by simp; omega)
    have C2 : Hid (Calls Tryd.prog 62 #[.agg #[.int .i64 p.k, .int .i64 p.v, .int .i64 p.vk, .int .i64 p.va, .int .i64 p.vb, .int .i64 p.h, .slice ta (ln k T1) tc, .slice ea (ln k T2) ec]] w1
        fun e w' => ∃ t' e' b1 b2, e = .returned (.agg #[.int .i64 p.k, .int .i64 p.v, .int .i64 p.vk, .int .i64 p.va, .int .i64 p.vb, .int .i64 p.h, t', e']) ∧ Below w1.heap.size w1 w' ∧ Own w' k t' T1 b1 ∧ Own w' k e' T2 b2 ∧ (∀ b ∈ b1 ++ b2, w1.heap.size ≤ b ∧ b < w'.heap.size) ∧ (b1 ++ b2).Nodup) :=
      copyStep_of k T1 T2 p ta ea _ tc _ ec w1 (fun wx hwx => copySteps_any k T1 _ wx ((r1.below hb1).below hwx) (by omega)) (fun wx hwx => copySteps_any k T2 _ wx ((r2.below hb1).below hwx) (by omega))
    have hS := row_cells own hcs
    obtain ⟨m0, m1, m2, m3, m4, m5, m6, m7⟩ := hS
    have HX : Hid _ := hx
    have q0 : (0 : Int) ≤ (q : Int) := by omega
    have q1 : (q : Int) < (cnt d T : Int) := by omega
    have HV : Hid (vIn (cnt d T) (q : Int) = true) := hv
    clear own fl ok hb1 A C1 r1 r2 hcs hw1 hv
    go_wp2_with (first | (go_at_call 61; refine (isBelow_any _ _ _).mono ?_; rintro e w2 ⟨rfl, hw2⟩; subst w2; rw [HV.out]))
    go_at_call 62; refine Calls.mono C2.out ?_
    rintro e w2 ⟨t', e', b1, b2, rfl, hb2, o1, o2, rg, nd⟩
    obtain ⟨ta', tc', rfl⟩ := o1.slice
    obtain ⟨ea', ec', rfl⟩ := o2.slice
    have Z2 := C8.below HZ.out hb2
    have B2 : Below w.heap.size w w2 := Below.then B1 hb2 B1.size
    have HZ : Hid (C8 w2 (w.heap.size + 1) (.int .i64 0) (.int .i64 0) (.int .i64 0) (.int .i64 0) (.int .i64 0) (.int .i64 0) (.slice none 0 0) (.slice none 0 0)) := Z2
    have HO1 : Hid (Own w2 k (.slice ta' (ln k T1) tc') T1 b1) := o1
    have HO2 : Hid (Own w2 k (.slice ea' (ln k T2) ec') T2 b2) := o2
    have HRG : Hid (∀ b ∈ b1 ++ b2, w1.heap.size ≤ b ∧ b < w2.heap.size) := rg
    clear x0 x1 x2 x3 x4 x5 x6 x7 y0 y1 y2 y3 y4 y5 y6 y7 m0 m1 m2 m3 m4 m5 m6 m7
    obtain ⟨⟨x0, x1, x2, x3, x4, x5, x6, x7⟩, y0, y1, y2, y3, y4, y5, y6, y7⟩ := Z2
    clear hb2 o1 o2 rg C2
    go_wp2
    have AF := st8_c8 HZ.out (.int .i64 p.k) (.int .i64 p.v) (.int .i64 p.vk) (.int .i64 p.va) (.int .i64 p.vb) (.int .i64 p.h) (.slice ta' (ln k T1) tc') (.slice ea' (ln k T2) ec')
    have BF := st8_below B2 (show w.heap.size ≤ w.heap.size + 1 by omega) (.int .i64 p.k) (.int .i64 p.v) (.int .i64 p.vk) (.int .i64 p.va) (.int .i64 p.vb) (.int .i64 p.h) (.slice ta' (ln k T1) tc') (.slice ea' (ln k T2) ec')
    have HF := fun b hb => st8_heap w2 (w.heap.size + 1) b hb (.int .i64 p.k) (.int .i64 p.v) (.int .i64 p.vk) (.int .i64 p.va) (.int .i64 p.vb) (.int .i64 p.h) (.slice ta' (ln k T1) tc') (.slice ea' (ln k T2) ec')
    have SF := st8_size w2 (w.heap.size + 1) (.int .i64 p.k) (.int .i64 p.v) (.int .i64 p.vk) (.int .i64 p.va) (.int .i64 p.vb) (.int .i64 p.h) (.slice ta' (ln k T1) tc') (.slice ea' (ln k T2) ec')
    generalize ((((((((w2.setCell ⟨w.heap.size + 1, 0, none⟩ (.int .i64 p.k)).setCell ⟨w.heap.size + 1, 1, none⟩ (.int .i64 p.v)).setCell ⟨w.heap.size + 1, 2, none⟩ (.int .i64 p.vk)).setCell ⟨w.heap.size + 1, 3, none⟩ (.int .i64 p.va)).setCell ⟨w.heap.size + 1, 4, none⟩ (.int .i64 p.vb)).setCell ⟨w.heap.size + 1, 5, none⟩ (.int .i64 p.h)).setCell ⟨w.heap.size + 1, 6, none⟩ (.slice ta' (ln k T1) tc')).setCell ⟨w.heap.size + 1, 7, none⟩ (.slice ea' (ln k T2) ec')) = wf at *
    obtain ⟨⟨c0, c1, c2, c3, c4, c5, c6, c7⟩, _⟩ := AF
    refine bodyPost_ret (v := .tuple #[stepOf p (.slice ta' (ln k T1) tc') (.slice ea' (ln k T2) ec'), .bool true]) (by simp [results, Tryd.results30, go_sem, stepOf, zeroStep, c0, c1, c2, c3, c4, c5, c6, c7]) rfl ⟨BF, .inl ⟨by rw [HOK.out, HV.out]; rfl, ⟨k, p, T1, T2⟩, _, _, b1, b2, by simpa using HX.out, rfl, Own.frame (fun b hb => HF b (by have := HRG.out b (List.mem_append_left _ hb); omega)) HO1.out, Own.frame (fun b hb => HF b (by have := HRG.out b (List.mem_append_right _ hb); omega)) HO2.out, fun b hb => by have := HRG.out b hb; omega, nd⟩⟩

end Go.Proofs.YtpmhkhajahoaaaaDoor
