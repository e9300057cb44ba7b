/- Steps copied by the program. -/
import Derived.Test.YtpcmhkcahajdgaaAll
import Derived.Deep.RegionHeld3
import Derived.Deep.DrawnRows
namespace Go.Proofs.Ytpcmhkcahajdgaa
open Go.RowKit
set_option linter.unusedSimpArgs false
set_option linter.unusedVariables false
attribute [local go_sem ↓] Go.wp_at_zero Go.wp_at_succ
attribute [local go_sem] World.cell?_alloc_some

set_option maxHeartbeats 4000000 in
theorem copyStep_of (k : Nat) (T1 T2 : Tr k) (p : Pay) (ta ea : Option Addr) (lt tc le ec : Nat) (w : World)
    (c1 : ∀ wx, Below w.heap.size w wx → Cp 111 k T1 wx (.slice ta lt tc)) (c2 : ∀ wx, Below w.heap.size w wx → Cp 111 k T2 wx (.slice ea le ec)) :
    Calls Try.prog 76 #[.agg #[.int .i64 p.k, .int .i64 p.v, .int .i64 p.vk, .int .i64 p.va, .int .i64 p.vb, .int .i64 p.h, .slice ta lt tc, .slice ea le ec]] w
      fun e w' => ∃ t' e' b1 b2, e = .returned (.agg #[.int .i64 p.k, .int .i64 p.v, .int .i64 p.vk, .int .i64 p.va, .int .i64 p.vb, .int .i64 p.h, t', e']) ∧ Below w.heap.size w w' ∧ Own w' k t' T1 b1 ∧ Own w' k e' T2 b2 ∧ (∀ b ∈ b1 ++ b2, w.heap.size ≤ b ∧ b < w'.heap.size) ∧ (b1 ++ b2).Nodup := by
  have C1 : Hid _ := c1
  have C2 : Hid _ := c2
  clear c1 c2
  go_enter Try.func76, Try.ntmps76
  go_wp2_with fail
  have A1 := C8.new w (.int .i64 p.k) (.int .i64 p.v) (.int .i64 p.vk) (.int .i64 p.va) (.int .i64 p.vb) (.int .i64 p.h) (.slice ta lt tc) (.slice ea le ec) 34
  have A2 := C8.new (w.alloc (.cells #[.int .i64 p.k, .int .i64 p.v, .int .i64 p.vk, .int .i64 p.va, .int .i64 p.vb, .int .i64 p.h, .slice ta lt tc, .slice ea le ec] 34)) (.int .i64 0) (.int .i64 0) (.int .i64 0) (.int .i64 0) (.int .i64 0) (.int .i64 0) (.slice none 0 0) (.slice none 0 0) 34
  replace A1 := (A1.below ((Below.refl _ _).alloc (Nat.le_refl _) (.cells #[.int .i64 0, .int .i64 0, .int .i64 0, .int .i64 0, .int .i64 0, .int .i64 0, .slice none 0 0, .slice none 0 0] 34))).below ((Below.refl _ _).drew)
  replace A2 := A2.below ((Below.refl _ _).drew)
  rw [show (w.alloc (.cells #[.int .i64 p.k, .int .i64 p.v, .int .i64 p.vk, .int .i64 p.va, .int .i64 p.vb, .int .i64 p.h, .slice ta lt tc, .slice ea le ec] 34)).heap.size = w.heap.size + 1 by simp] at A2
  have B0 : Below w.heap.size w ((w.alloc (.cells #[.int .i64 p.k, .int .i64 p.v, .int .i64 p.vk, .int .i64 p.va, .int .i64 p.vb, .int .i64 p.h, .slice ta lt tc, .slice ea le ec] 34)).alloc (.cells #[.int .i64 0, .int .i64 0, .int .i64 0, .int .i64 0, .int .i64 0, .int .i64 0, .slice none 0 0, .slice none 0 0] 34)).drew := (((Below.refl _ _).alloc (Nat.le_refl _) _).alloc (by simp) _).drew
  have s0 : w.heap.size + 1 < ((w.alloc (.cells #[.int .i64 p.k, .int .i64 p.v, .int .i64 p.vk, .int .i64 p.va, .int .i64 p.vb, .int .i64 p.h, .slice ta lt tc, .slice ea le ec] 34)).alloc (.cells #[.int .i64 0, .int .i64 0, .int .i64 0, .int .i64 0, .int .i64 0, .int .i64 0, .slice none 0 0, .slice none 0 0] 34)).drew.heap.size := by simp
  have HA1 : Hid (C8 ((w.alloc (.cells #[.int .i64 p.k, .int .i64 p.v, .int .i64 p.vk, .int .i64 p.va, .int .i64 p.vb, .int .i64 p.h, .slice ta lt tc, .slice ea le ec] 34)).alloc (.cells #[.int .i64 0, .int .i64 0, .int .i64 0, .int .i64 0, .int .i64 0, .int .i64 0, .slice none 0 0, .slice none 0 0] 34)).drew w.heap.size (.int .i64 p.k) (.int .i64 p.v) (.int .i64 p.vk) (.int .i64 p.va) (.int .i64 p.vb) (.int .i64 p.h) (.slice ta lt tc) (.slice ea le ec)) := A1
  have HA2 : Hid (C8 ((w.alloc (.cells #[.int .i64 p.k, .int .i64 p.v, .int .i64 p.vk, .int .i64 p.va, .int .i64 p.vb, .int .i64 p.h, .slice ta lt tc, .slice ea le ec] 34)).alloc (.cells #[.int .i64 0, .int .i64 0, .int .i64 0, .int .i64 0, .int .i64 0, .int .i64 0, .slice none 0 0, .slice none 0 0] 34)).drew (w.heap.size + 1) (.int .i64 0) (.int .i64 0) (.int .i64 0) (.int .i64 0) (.int .i64 0) (.int .i64 0) (.slice none 0 0) (.slice none 0 0)) := A2
  have HB0 : Hid (Below w.heap.size w ((w.alloc (.cells #[.int .i64 p.k, .int .i64 p.v, .int .i64 p.vk, .int .i64 p.va, .int .i64 p.vb, .int .i64 p.h, .slice ta lt tc, .slice ea le ec] 34)).alloc (.cells #[.int .i64 0, .int .i64 0, .int .i64 0, .int .i64 0, .int .i64 0, .int .i64 0, .slice none 0 0, .slice none 0 0] 34)).drew) := B0
  obtain ⟨⟨x0, x1, x2, x3, x4, x5, x6, x7⟩, y0, y1, y2, y3, y4, y5, y6, y7⟩ := A1
  clear A2 B0
  refine wp_region_held (S := fun _ => True) (by kernel_rfl) ?_
  change wpAnyH _ _ _ _ _ _ _ _ (World.drew _)
  refine' wpAnyH_take (i := 0) (v := _) rfl (by kernel_rfl) (by kernel_rfl) (by kernel_rfl) (fun _ _ _ h => h) (Or.inl ⟨by rfl, ?hy1001⟩) trivial ?hn1001
  case hy1001 => (intro wz hSw; go_simp; first | done | with_reducible rfl)
  try simp only [List.getElem_toArray, List.getElem_cons_zero, List.getElem_cons_succ, Act.put, List.setIfInBounds_toArray, List.set_cons_zero, List.set_cons_succ]
  refine' wpAnyH_take (i := 3) (v := _) rfl (by kernel_rfl) (by kernel_rfl) (by kernel_rfl) (fun _ _ _ h => h) (Or.inl ⟨by rfl, ?hy1002⟩) trivial ?hn1002
  case hy1002 => (intro wz hSw; go_simp; first | done | with_reducible rfl)
  try simp only [List.getElem_toArray, List.getElem_cons_zero, List.getElem_cons_succ, Act.put, List.setIfInBounds_toArray, List.set_cons_zero, List.set_cons_succ]
  refine wpAnyH_ready (rs := [1, 4]) (by kernel_rfl) (by simp) ?_
  refine AllReadyH.cons rfl (fun K hK => ?_) (AllReadyH.cons rfl (fun K hK => ?_) AllReadyH.nil)
  · go_simp
    refine hK.out _ _ trivial (fun _ => ?_)
    clear hK K
    refine wpAnyH_ready (rs := [2, 4]) (by kernel_rfl) (by simp) ?_
    refine AllReadyH.cons rfl (fun K hK => ?_) (AllReadyH.cons rfl (fun K hK => ?_) AllReadyH.nil)
    · go_simp
      refine Calls.mono (C1.out _ HB0.out) ?_
      rintro e w1 ⟨t', b1, rfl, hb1, o1, r1, n1⟩
      obtain ⟨ta', tc', rfl⟩ := o1.slice
      have X1 := C8.below HA1.out hb1
      have HX1 : Hid (C8 w1 w.heap.size (.int .i64 p.k) (.int .i64 p.v) (.int .i64 p.vk) (.int .i64 p.va) (.int .i64 p.vb) (.int .i64 p.h) (.slice ta lt tc) (.slice ea le ec)) := X1
      have HX2 : Hid (C8 w1 (w.heap.size + 1) (.int .i64 0) (.int .i64 0) (.int .i64 0) (.int .i64 0) (.int .i64 0) (.int .i64 0) (.slice none 0 0) (.slice none 0 0)) := C8.below HA2.out hb1
      have hs1 : w.heap.size + 1 < w1.heap.size := Nat.lt_of_lt_of_le s0 hb1.size
      have HB1 : Hid (Below w.heap.size w w1) := Below.then HB0.out hb1 (by omega)
      have HO1 : Hid (Own w1 k (.slice ta' (ln k T1) tc') T1 b1) := o1
      have HR1 : Hid (∀ b ∈ b1, w.heap.size + 1 < b ∧ b < w1.heap.size) := (show ∀ b ∈ b1, _ from fun b hb => by have := r1 b hb; omega)
      have HN1 : Hid _ := n1
      clear x0 x1 x2 x3 x4 x5 x6 x7 y0 y1 y2 y3 y4 y5 y6 y7
      obtain ⟨⟨x0, x1, x2, x3, x4, x5, x6, x7⟩, y0, y1, y2, y3, y4, y5, y6, y7⟩ := X1
      clear hb1 o1 r1 n1
      refine hK.out _ _ trivial (fun _ => ?_)
      clear hK K
      refine wpAnyH_ready (rs := [4]) (by kernel_rfl) (by simp) ?_
      refine AllReadyH.cons rfl (fun K hK => ?_) AllReadyH.nil
      go_simp
      refine hK.out _ _ trivial (fun _ => ?_)
      clear hK K
      refine' wpAnyH_take (i := 6) (v := _) rfl (by kernel_rfl) (by kernel_rfl) (by kernel_rfl) (fun _ _ _ h => h) (Or.inl ⟨by rfl, ?hy1003⟩) trivial ?hn1003
      case hy1003 => (intro wz hSw; go_simp; first | done | with_reducible rfl)
      try simp only [List.getElem_toArray, List.getElem_cons_zero, List.getElem_cons_succ, Act.put, List.setIfInBounds_toArray, List.set_cons_zero, List.set_cons_succ]
      refine wpAnyH_ready (rs := [5]) (by kernel_rfl) (by simp) ?_
      refine AllReadyH.cons rfl (fun K hK => ?_) AllReadyH.nil
      go_simp
      refine Calls.mono (C2.out _ HB1.out) ?_
      rintro e w2 ⟨e', b2, rfl, hb2, o2, r2, n2⟩
      obtain ⟨ea', ec', rfl⟩ := o2.slice
      have X1 := C8.below HX1.out hb2
      have HY1 : Hid (C8 w2 w.heap.size (.int .i64 p.k) (.int .i64 p.v) (.int .i64 p.vk) (.int .i64 p.va) (.int .i64 p.vb) (.int .i64 p.h) (.slice ta lt tc) (.slice ea le ec)) := X1
      have HY2 : Hid (C8 w2 (w.heap.size + 1) (.int .i64 0) (.int .i64 0) (.int .i64 0) (.int .i64 0) (.int .i64 0) (.int .i64 0) (.slice none 0 0) (.slice none 0 0)) := C8.below HX2.out hb2
      have HB2 : Hid (Below w1.heap.size w1 w2) := hb2
      have HO2 : Hid (Own w2 k (.slice ea' (ln k T2) ec') T2 b2) := o2
      have HR2 : Hid (∀ b ∈ b2, w1.heap.size ≤ b ∧ b < w2.heap.size) := r2
      have HN2 : Hid _ := n2
      have hs2 : w1.heap.size ≤ w2.heap.size := hb2.size
      clear x0 x1 x2 x3 x4 x5 x6 x7 y0 y1 y2 y3 y4 y5 y6 y7
      obtain ⟨⟨x0, x1, x2, x3, x4, x5, x6, x7⟩, y0, y1, y2, y3, y4, y5, y6, y7⟩ := X1
      clear hb2 o2 r2 n2
      refine hK.out _ _ trivial (fun _ => ?_)
      clear hK K
      refine wpAnyH_ready (rs := [7]) (by kernel_rfl) (by simp) ?_
      refine AllReadyH.cons rfl (fun K hK => ?_) AllReadyH.nil
      go_simp
      refine hK.out _ _ trivial (fun _ => ?_)
      clear hK K
      refine' wpAnyH_take (i := 8) (v := _) rfl (by kernel_rfl) (by kernel_rfl) (by kernel_rfl) (fun _ _ _ h => h) (Or.inl ⟨by rfl, ?hy1004⟩) trivial ?hn1004
      case hy1004 => (intro wz hSw; go_simp; first | done | with_reducible rfl)
      try simp only [List.getElem_toArray, List.getElem_cons_zero, List.getElem_cons_succ, Act.put, List.setIfInBounds_toArray, List.set_cons_zero, List.set_cons_succ]
      refine wpAnyH_ready (rs := [9]) (by kernel_rfl) (by simp) ?_
      refine AllReadyH.cons rfl (fun K hK => ?_) AllReadyH.nil
      go_simp
      refine hK.out _ _ trivial (fun _ => ?_)
      clear hK K
      refine wpAnyH_done (by kernel_rfl) ?_ _
      clear x0 x1 x2 x3 x4 x5 x6 x7 y0 y1 y2 y3 y4 y5 y6 y7
      have Y1 := (HY1.out.set6 (.slice ta' (ln k T1) tc')).set7 (.slice ea' (ln k T2) ec')
      have Y2 := (HY2.out.far (a := ⟨w.heap.size, 6, none⟩) (by show w.heap.size ≠ w.heap.size + 1; omega) (.slice ta' (ln k T1) tc')).far (a := ⟨w.heap.size, 7, none⟩) (by show w.heap.size ≠ w.heap.size + 1; omega) (.slice ea' (ln k T2) ec')
      obtain ⟨⟨x0, x1, x2, x3, x4, x5, x6, x7⟩, y0, y1, y2, y3, y4, y5, y6, y7⟩ := Y1
      obtain ⟨⟨z0, z1, z2, z3, z4, z5, z6, z7⟩, u0, u1, u2, u3, u4, u5, u6, u7⟩ := Y2
      go_wp2
      have B2 : Below w.heap.size w w2 := Below.then HB1.out HB2.out (by omega)
      have AF := ((((((((((HY2.out.far (a := ⟨w.heap.size, 6, none⟩) (by show w.heap.size ≠ w.heap.size + 1; omega) (.slice ta' (ln k T1) tc')).far (a := ⟨w.heap.size, 7, none⟩) (by show w.heap.size ≠ w.heap.size + 1; omega) (.slice ea' (ln k T2) ec')).set0 (.int .i64 p.k)).set1 (.int .i64 p.v)).set2 (.int .i64 p.vk)).set3 (.int .i64 p.va)).set4 (.int .i64 p.vb)).set5 (.int .i64 p.h)).set6 (.slice ta' (ln k T1) tc')).set7 (.slice ea' (ln k T2) ec'))
      have BF := ((((((((((B2.setCell (p := ⟨w.heap.size, 6, none⟩) (Nat.le_refl _) (.slice ta' (ln k T1) tc')).setCell (p := ⟨w.heap.size, 7, none⟩) (Nat.le_refl _) (.slice ea' (ln k T2) ec')).setCell (p := ⟨w.heap.size + 1, 0, none⟩) (by show w.heap.size ≤ w.heap.size + 1; omega) (.int .i64 p.k)).setCell (p := ⟨w.heap.size + 1, 1, none⟩) (by show w.heap.size ≤ w.heap.size + 1; omega) (.int .i64 p.v)).setCell (p := ⟨w.heap.size + 1, 2, none⟩) (by show w.heap.size ≤ w.heap.size + 1; omega) (.int .i64 p.vk)).setCell (p := ⟨w.heap.size + 1, 3, none⟩) (by show w.heap.size ≤ w.heap.size + 1; omega) (.int .i64 p.va)).setCell (p := ⟨w.heap.size + 1, 4, none⟩) (by show w.heap.size ≤ w.heap.size + 1; omega) (.int .i64 p.vb)).setCell (p := ⟨w.heap.size + 1, 5, none⟩) (by show w.heap.size ≤ w.heap.size + 1; omega) (.int .i64 p.h)).setCell (p := ⟨w.heap.size + 1, 6, none⟩) (by show w.heap.size ≤ w.heap.size + 1; omega) (.slice ta' (ln k T1) tc')).setCell (p := ⟨w.heap.size + 1, 7, none⟩) (by show w.heap.size ≤ w.heap.size + 1; omega) (.slice ea' (ln k T2) ec'))
      have hh : ∀ b, b ≠ w.heap.size + 1 → b ≠ w.heap.size → ((((((((((w2.setCell ⟨w.heap.size, 6, none⟩ (.slice ta' (ln k T1) tc')).setCell ⟨w.heap.size, 7, none⟩ (.slice ea' (ln k T2) ec')).setCell ⟨w.heap.size + 1, 0, none⟩ (.int .i64 p.k)).setCell ⟨w.heap.size + 1, 1, none⟩ (.int .i64 p.v)).setCell ⟨w.heap.size + 1, 2, none⟩ (.int .i64 p.vk)).setCell ⟨w.heap.size + 1, 3, none⟩ (.int .i64 p.va)).setCell ⟨w.heap.size + 1, 4, none⟩ (.int .i64 p.vb)).setCell ⟨w.heap.size + 1, 5, none⟩ (.int .i64 p.h)).setCell ⟨w.heap.size + 1, 6, none⟩ (.slice ta' (ln k T1) tc')).setCell ⟨w.heap.size + 1, 7, none⟩ (.slice ea' (ln k T2) ec')).heap[b]? = w2.heap[b]? := fun b h1 h2 => by
        rw [Below.heap_setCell _ _ _ _ h1, Below.heap_setCell _ _ _ _ h1, Below.heap_setCell _ _ _ _ h1, Below.heap_setCell _ _ _ _ h1, Below.heap_setCell _ _ _ _ h1, Below.heap_setCell _ _ _ _ h1, Below.heap_setCell _ _ _ _ h1, Below.heap_setCell _ _ _ _ h1, Below.heap_setCell _ _ _ _ h2, Below.heap_setCell _ _ _ _ h2]
      have sF : ((((((((((w2.setCell ⟨w.heap.size, 6, none⟩ (.slice ta' (ln k T1) tc')).setCell ⟨w.heap.size, 7, none⟩ (.slice ea' (ln k T2) ec')).setCell ⟨w.heap.size + 1, 0, none⟩ (.int .i64 p.k)).setCell ⟨w.heap.size + 1, 1, none⟩ (.int .i64 p.v)).setCell ⟨w.heap.size + 1, 2, none⟩ (.int .i64 p.vk)).setCell ⟨w.heap.size + 1, 3, none⟩ (.int .i64 p.va)).setCell ⟨w.heap.size + 1, 4, none⟩ (.int .i64 p.vb)).setCell ⟨w.heap.size + 1, 5, none⟩ (.int .i64 p.h)).setCell ⟨w.heap.size + 1, 6, none⟩ (.slice ta' (ln k T1) tc')).setCell ⟨w.heap.size + 1, 7, none⟩ (.slice ea' (ln k T2) ec')).heap.size = w2.heap.size := by simp [World.setCell]
      generalize ((((((((((w2.setCell ⟨w.heap.size, 6, none⟩ (.slice ta' (ln k T1) tc')).setCell ⟨w.heap.size, 7, none⟩ (.slice ea' (ln k T2) ec')).setCell ⟨w.heap.size + 1, 0, none⟩ (.int .i64 p.k)).setCell ⟨w.heap.size + 1, 1, none⟩ (.int .i64 p.v)).setCell ⟨w.heap.size + 1, 2, none⟩ (.int .i64 p.vk)).setCell ⟨w.heap.size + 1, 3, none⟩ (.int .i64 p.va)).setCell ⟨w.heap.size + 1, 4, none⟩ (.int .i64 p.vb)).setCell ⟨w.heap.size + 1, 5, none⟩ (.int .i64 p.h)).setCell ⟨w.heap.size + 1, 6, none⟩ (.slice ta' (ln k T1) tc')).setCell ⟨w.heap.size + 1, 7, none⟩ (.slice ea' (ln k T2) ec')) = wf at *
      have r1 : ∀ b ∈ b1, w.heap.size + 1 < b ∧ b < w1.heap.size := HR1.out
      have r2 : ∀ b ∈ b2, w1.heap.size ≤ b ∧ b < w2.heap.size := HR2.out
      obtain ⟨⟨c0, c1, c2, c3, c4, c5, c6, c7⟩, _⟩ := AF
      refine bodyPost_ret (v := .agg #[.int .i64 p.k, .int .i64 p.v, .int .i64 p.vk, .int .i64 p.va, .int .i64 p.vb, .int .i64 p.h, .slice ta' (ln k T1) tc', .slice ea' (ln k T2) ec']) (by simp [results, Try.results76, go_sem, c0, c1, c2, c3, c4, c5, c6, c7]) rfl ⟨_, _, b1, b2, rfl, BF, ?_, ?_, ?_, ?_⟩
      · exact Own.frame (fun b hb => hh b (by have := r1 b hb; omega) (by have := r1 b hb; omega)) (Own.below HO1.out HB2.out (fun b hb => (r1 b hb).2))
      · exact Own.frame (fun b hb => hh b (by have := r2 b hb; omega) (by have := r2 b hb; omega)) HO2.out
      · intro b hb
        rcases List.mem_append.1 hb with hb | hb
        · have := r1 b hb; omega
        · have := r2 b hb; omega
      · refine List.nodup_append.2 ⟨HN1.out, HN2.out, ?_⟩
        intro a ha b hb
        have := r1 a ha
        have := r2 b hb
        omega
    · go_simp
      refine hK.out _ _ trivial (fun _ => ?_)
      clear hK K
      refine wpAnyH_ready (rs := [2]) (by kernel_rfl) (by simp) ?_
      refine AllReadyH.cons rfl (fun K hK => ?_) AllReadyH.nil
      go_simp
      refine Calls.mono (C1.out _ HB0.out) ?_
      rintro e w1 ⟨t', b1, rfl, hb1, o1, r1, n1⟩
      obtain ⟨ta', tc', rfl⟩ := o1.slice
      have X1 := C8.below HA1.out hb1
      have HX1 : Hid (C8 w1 w.heap.size (.int .i64 p.k) (.int .i64 p.v) (.int .i64 p.vk) (.int .i64 p.va) (.int .i64 p.vb) (.int .i64 p.h) (.slice ta lt tc) (.slice ea le ec)) := X1
      have HX2 : Hid (C8 w1 (w.heap.size + 1) (.int .i64 0) (.int .i64 0) (.int .i64 0) (.int .i64 0) (.int .i64 0) (.int .i64 0) (.slice none 0 0) (.slice none 0 0)) := C8.below HA2.out hb1
      have hs1 : w.heap.size + 1 < w1.heap.size := Nat.lt_of_lt_of_le s0 hb1.size
      have HB1 : Hid (Below w.heap.size w w1) := Below.then HB0.out hb1 (by omega)
      have HO1 : Hid (Own w1 k (.slice ta' (ln k T1) tc') T1 b1) := o1
      have HR1 : Hid (∀ b ∈ b1, w.heap.size + 1 < b ∧ b < w1.heap.size) := (show ∀ b ∈ b1, _ from fun b hb => by have := r1 b hb; omega)
      have HN1 : Hid _ := n1
      clear x0 x1 x2 x3 x4 x5 x6 x7 y0 y1 y2 y3 y4 y5 y6 y7
      obtain ⟨⟨x0, x1, x2, x3, x4, x5, x6, x7⟩, y0, y1, y2, y3, y4, y5, y6, y7⟩ := X1
      clear hb1 o1 r1 n1
      refine hK.out _ _ trivial (fun _ => ?_)
      clear hK K
      refine' wpAnyH_take (i := 6) (v := _) rfl (by kernel_rfl) (by kernel_rfl) (by kernel_rfl) (fun _ _ _ h => h) (Or.inl ⟨by rfl, ?hy1005⟩) trivial ?hn1005
      case hy1005 => (intro wz hSw; go_simp; first | done | with_reducible rfl)
      try simp only [List.getElem_toArray, List.getElem_cons_zero, List.getElem_cons_succ, Act.put, List.setIfInBounds_toArray, List.set_cons_zero, List.set_cons_succ]
      refine wpAnyH_ready (rs := [5]) (by kernel_rfl) (by simp) ?_
      refine AllReadyH.cons rfl (fun K hK => ?_) AllReadyH.nil
      go_simp
      refine Calls.mono (C2.out _ HB1.out) ?_
      rintro e w2 ⟨e', b2, rfl, hb2, o2, r2, n2⟩
      obtain ⟨ea', ec', rfl⟩ := o2.slice
      have X1 := C8.below HX1.out hb2
      have HY1 : Hid (C8 w2 w.heap.size (.int .i64 p.k) (.int .i64 p.v) (.int .i64 p.vk) (.int .i64 p.va) (.int .i64 p.vb) (.int .i64 p.h) (.slice ta lt tc) (.slice ea le ec)) := X1
      have HY2 : Hid (C8 w2 (w.heap.size + 1) (.int .i64 0) (.int .i64 0) (.int .i64 0) (.int .i64 0) (.int .i64 0) (.int .i64 0) (.slice none 0 0) (.slice none 0 0)) := C8.below HX2.out hb2
      have HB2 : Hid (Below w1.heap.size w1 w2) := hb2
      have HO2 : Hid (Own w2 k (.slice ea' (ln k T2) ec') T2 b2) := o2
      have HR2 : Hid (∀ b ∈ b2, w1.heap.size ≤ b ∧ b < w2.heap.size) := r2
      have HN2 : Hid _ := n2
      have hs2 : w1.heap.size ≤ w2.heap.size := hb2.size
      clear x0 x1 x2 x3 x4 x5 x6 x7 y0 y1 y2 y3 y4 y5 y6 y7
      obtain ⟨⟨x0, x1, x2, x3, x4, x5, x6, x7⟩, y0, y1, y2, y3, y4, y5, y6, y7⟩ := X1
      clear hb2 o2 r2 n2
      refine hK.out _ _ trivial (fun _ => ?_)
      clear hK K
      refine wpAnyH_ready (rs := [7]) (by kernel_rfl) (by simp) ?_
      refine AllReadyH.cons rfl (fun K hK => ?_) AllReadyH.nil
      go_simp
      refine hK.out _ _ trivial (fun _ => ?_)
      clear hK K
      refine' wpAnyH_take (i := 8) (v := _) rfl (by kernel_rfl) (by kernel_rfl) (by kernel_rfl) (fun _ _ _ h => h) (Or.inl ⟨by rfl, ?hy1006⟩) trivial ?hn1006
      case hy1006 => (intro wz hSw; go_simp; first | done | with_reducible rfl)
      try simp only [List.getElem_toArray, List.getElem_cons_zero, List.getElem_cons_succ, Act.put, List.setIfInBounds_toArray, List.set_cons_zero, List.set_cons_succ]
      refine wpAnyH_ready (rs := [9]) (by kernel_rfl) (by simp) ?_
      refine AllReadyH.cons rfl (fun K hK => ?_) AllReadyH.nil
      go_simp
      refine hK.out _ _ trivial (fun _ => ?_)
      clear hK K
      refine wpAnyH_done (by kernel_rfl) ?_ _
      clear x0 x1 x2 x3 x4 x5 x6 x7 y0 y1 y2 y3 y4 y5 y6 y7
      have Y1 := (HY1.out.set6 (.slice ta' (ln k T1) tc')).set7 (.slice ea' (ln k T2) ec')
      have Y2 := (HY2.out.far (a := ⟨w.heap.size, 6, none⟩) (by show w.heap.size ≠ w.heap.size + 1; omega) (.slice ta' (ln k T1) tc')).far (a := ⟨w.heap.size, 7, none⟩) (by show w.heap.size ≠ w.heap.size + 1; omega) (.slice ea' (ln k T2) ec')
      obtain ⟨⟨x0, x1, x2, x3, x4, x5, x6, x7⟩, y0, y1, y2, y3, y4, y5, y6, y7⟩ := Y1
      obtain ⟨⟨z0, z1, z2, z3, z4, z5, z6, z7⟩, u0, u1, u2, u3, u4, u5, u6, u7⟩ := Y2
      go_wp2
      have B2 : Below w.heap.size w w2 := Below.then HB1.out HB2.out (by omega)
      have AF := ((((((((((HY2.out.far (a := ⟨w.heap.size, 6, none⟩) (by show w.heap.size ≠ w.heap.size + 1; omega) (.slice ta' (ln k T1) tc')).far (a := ⟨w.heap.size, 7, none⟩) (by show w.heap.size ≠ w.heap.size + 1; omega) (.slice ea' (ln k T2) ec')).set0 (.int .i64 p.k)).set1 (.int .i64 p.v)).set2 (.int .i64 p.vk)).set3 (.int .i64 p.va)).set4 (.int .i64 p.vb)).set5 (.int .i64 p.h)).set6 (.slice ta' (ln k T1) tc')).set7 (.slice ea' (ln k T2) ec'))
      have BF := ((((((((((B2.setCell (p := ⟨w.heap.size, 6, none⟩) (Nat.le_refl _) (.slice ta' (ln k T1) tc')).setCell (p := ⟨w.heap.size, 7, none⟩) (Nat.le_refl _) (.slice ea' (ln k T2) ec')).setCell (p := ⟨w.heap.size + 1, 0, none⟩) (by show w.heap.size ≤ w.heap.size + 1; omega) (.int .i64 p.k)).setCell (p := ⟨w.heap.size + 1, 1, none⟩) (by show w.heap.size ≤ w.heap.size + 1; omega) (.int .i64 p.v)).setCell (p := ⟨w.heap.size + 1, 2, none⟩) (by show w.heap.size ≤ w.heap.size + 1; omega) (.int .i64 p.vk)).setCell (p := ⟨w.heap.size + 1, 3, none⟩) (by show w.heap.size ≤ w.heap.size + 1; omega) (.int .i64 p.va)).setCell (p := ⟨w.heap.size + 1, 4, none⟩) (by show w.heap.size ≤ w.heap.size + 1; omega) (.int .i64 p.vb)).setCell (p := ⟨w.heap.size + 1, 5, none⟩) (by show w.heap.size ≤ w.heap.size + 1; omega) (.int .i64 p.h)).setCell (p := ⟨w.heap.size + 1, 6, none⟩) (by show w.heap.size ≤ w.heap.size + 1; omega) (.slice ta' (ln k T1) tc')).setCell (p := ⟨w.heap.size + 1, 7, none⟩) (by show w.heap.size ≤ w.heap.size + 1; omega) (.slice ea' (ln k T2) ec'))
      have hh : ∀ b, b ≠ w.heap.size + 1 → b ≠ w.heap.size → ((((((((((w2.setCell ⟨w.heap.size, 6, none⟩ (.slice ta' (ln k T1) tc')).setCell ⟨w.heap.size, 7, none⟩ (.slice ea' (ln k T2) ec')).setCell ⟨w.heap.size + 1, 0, none⟩ (.int .i64 p.k)).setCell ⟨w.heap.size + 1, 1, none⟩ (.int .i64 p.v)).setCell ⟨w.heap.size + 1, 2, none⟩ (.int .i64 p.vk)).setCell ⟨w.heap.size + 1, 3, none⟩ (.int .i64 p.va)).setCell ⟨w.heap.size + 1, 4, none⟩ (.int .i64 p.vb)).setCell ⟨w.heap.size + 1, 5, none⟩ (.int .i64 p.h)).setCell ⟨w.heap.size + 1, 6, none⟩ (.slice ta' (ln k T1) tc')).setCell ⟨w.heap.size + 1, 7, none⟩ (.slice ea' (ln k T2) ec')).heap[b]? = w2.heap[b]? := fun b h1 h2 => by
        rw [Below.heap_setCell _ _ _ _ h1, Below.heap_setCell _ _ _ _ h1, Below.heap_setCell _ _ _ _ h1, Below.heap_setCell _ _ _ _ h1, Below.heap_setCell _ _ _ _ h1, Below.heap_setCell _ _ _ _ h1, Below.heap_setCell _ _ _ _ h1, Below.heap_setCell _ _ _ _ h1, Below.heap_setCell _ _ _ _ h2, Below.heap_setCell _ _ _ _ h2]
      have sF : ((((((((((w2.setCell ⟨w.heap.size, 6, none⟩ (.slice ta' (ln k T1) tc')).setCell ⟨w.heap.size, 7, none⟩ (.slice ea' (ln k T2) ec')).setCell ⟨w.heap.size + 1, 0, none⟩ (.int .i64 p.k)).setCell ⟨w.heap.size + 1, 1, none⟩ (.int .i64 p.v)).setCell ⟨w.heap.size + 1, 2, none⟩ (.int .i64 p.vk)).setCell ⟨w.heap.size + 1, 3, none⟩ (.int .i64 p.va)).setCell ⟨w.heap.size + 1, 4, none⟩ (.int .i64 p.vb)).setCell ⟨w.heap.size + 1, 5, none⟩ (.int .i64 p.h)).setCell ⟨w.heap.size + 1, 6, none⟩ (.slice ta' (ln k T1) tc')).setCell ⟨w.heap.size + 1, 7, none⟩ (.slice ea' (ln k T2) ec')).heap.size = w2.heap.size := by simp [World.setCell]
      generalize ((((((((((w2.setCell ⟨w.heap.size, 6, none⟩ (.slice ta' (ln k T1) tc')).setCell ⟨w.heap.size, 7, none⟩ (.slice ea' (ln k T2) ec')).setCell ⟨w.heap.size + 1, 0, none⟩ (.int .i64 p.k)).setCell ⟨w.heap.size + 1, 1, none⟩ (.int .i64 p.v)).setCell ⟨w.heap.size + 1, 2, none⟩ (.int .i64 p.vk)).setCell ⟨w.heap.size + 1, 3, none⟩ (.int .i64 p.va)).setCell ⟨w.heap.size + 1, 4, none⟩ (.int .i64 p.vb)).setCell ⟨w.heap.size + 1, 5, none⟩ (.int .i64 p.h)).setCell ⟨w.heap.size + 1, 6, none⟩ (.slice ta' (ln k T1) tc')).setCell ⟨w.heap.size + 1, 7, none⟩ (.slice ea' (ln k T2) ec')) = wf at *
      have r1 : ∀ b ∈ b1, w.heap.size + 1 < b ∧ b < w1.heap.size := HR1.out
      have r2 : ∀ b ∈ b2, w1.heap.size ≤ b ∧ b < w2.heap.size := HR2.out
      obtain ⟨⟨c0, c1, c2, c3, c4, c5, c6, c7⟩, _⟩ := AF
      refine bodyPost_ret (v := .agg #[.int .i64 p.k, .int .i64 p.v, .int .i64 p.vk, .int .i64 p.va, .int .i64 p.vb, .int .i64 p.h, .slice ta' (ln k T1) tc', .slice ea' (ln k T2) ec']) (by simp [results, Try.results76, go_sem, c0, c1, c2, c3, c4, c5, c6, c7]) rfl ⟨_, _, b1, b2, rfl, BF, ?_, ?_, ?_, ?_⟩
      · exact Own.frame (fun b hb => hh b (by have := r1 b hb; omega) (by have := r1 b hb; omega)) (Own.below HO1.out HB2.out (fun b hb => (r1 b hb).2))
      · exact Own.frame (fun b hb => hh b (by have := r2 b hb; omega) (by have := r2 b hb; omega)) HO2.out
      · intro b hb
        rcases List.mem_append.1 hb with hb | hb
        · have := r1 b hb; omega
        · have := r2 b hb; omega
      · refine List.nodup_append.2 ⟨HN1.out, HN2.out, ?_⟩
        intro a ha b hb
        have := r1 a ha
        have := r2 b hb
        omega
  · go_simp
    refine hK.out _ _ trivial (fun _ => ?_)
    clear hK K
    refine wpAnyH_ready (rs := [1]) (by kernel_rfl) (by simp) ?_
    refine AllReadyH.cons rfl (fun K hK => ?_) AllReadyH.nil
    go_simp
    refine hK.out _ _ trivial (fun _ => ?_)
    clear hK K
    refine wpAnyH_ready (rs := [2]) (by kernel_rfl) (by simp) ?_
    refine AllReadyH.cons rfl (fun K hK => ?_) AllReadyH.nil
    go_simp
    refine Calls.mono (C1.out _ HB0.out) ?_
    rintro e w1 ⟨t', b1, rfl, hb1, o1, r1, n1⟩
    obtain ⟨ta', tc', rfl⟩ := o1.slice
    have X1 := C8.below HA1.out hb1
    have HX1 : Hid (C8 w1 w.heap.size (.int .i64 p.k) (.int .i64 p.v) (.int .i64 p.vk) (.int .i64 p.va) (.int .i64 p.vb) (.int .i64 p.h) (.slice ta lt tc) (.slice ea le ec)) := X1
    have HX2 : Hid (C8 w1 (w.heap.size + 1) (.int .i64 0) (.int .i64 0) (.int .i64 0) (.int .i64 0) (.int .i64 0) (.int .i64 0) (.slice none 0 0) (.slice none 0 0)) := C8.below HA2.out hb1
    have hs1 : w.heap.size + 1 < w1.heap.size := Nat.lt_of_lt_of_le s0 hb1.size
    have HB1 : Hid (Below w.heap.size w w1) := Below.then HB0.out hb1 (by omega)
    have HO1 : Hid (Own w1 k (.slice ta' (ln k T1) tc') T1 b1) := o1
    have HR1 : Hid (∀ b ∈ b1, w.heap.size + 1 < b ∧ b < w1.heap.size) := (show ∀ b ∈ b1, _ from fun b hb => by have := r1 b hb; omega)
    have HN1 : Hid _ := n1
    clear x0 x1 x2 x3 x4 x5 x6 x7 y0 y1 y2 y3 y4 y5 y6 y7
    obtain ⟨⟨x0, x1, x2, x3, x4, x5, x6, x7⟩, y0, y1, y2, y3, y4, y5, y6, y7⟩ := X1
    clear hb1 o1 r1 n1
    refine hK.out _ _ trivial (fun _ => ?_)
    clear hK K
    refine' wpAnyH_take (i := 6) (v := _) rfl (by kernel_rfl) (by kernel_rfl) (by kernel_rfl) (fun _ _ _ h => h) (Or.inl ⟨by rfl, ?hy1007⟩) trivial ?hn1007
    case hy1007 => (intro wz hSw; go_simp; first | done | with_reducible rfl)
    try simp only [List.getElem_toArray, List.getElem_cons_zero, List.getElem_cons_succ, Act.put, List.setIfInBounds_toArray, List.set_cons_zero, List.set_cons_succ]
    refine wpAnyH_ready (rs := [5]) (by kernel_rfl) (by simp) ?_
    refine AllReadyH.cons rfl (fun K hK => ?_) AllReadyH.nil
    go_simp
    refine Calls.mono (C2.out _ HB1.out) ?_
    rintro e w2 ⟨e', b2, rfl, hb2, o2, r2, n2⟩
    obtain ⟨ea', ec', rfl⟩ := o2.slice
    have X1 := C8.below HX1.out hb2
    have HY1 : Hid (C8 w2 w.heap.size (.int .i64 p.k) (.int .i64 p.v) (.int .i64 p.vk) (.int .i64 p.va) (.int .i64 p.vb) (.int .i64 p.h) (.slice ta lt tc) (.slice ea le ec)) := X1
    have HY2 : Hid (C8 w2 (w.heap.size + 1) (.int .i64 0) (.int .i64 0) (.int .i64 0) (.int .i64 0) (.int .i64 0) (.int .i64 0) (.slice none 0 0) (.slice none 0 0)) := C8.below HX2.out hb2
    have HB2 : Hid (Below w1.heap.size w1 w2) := hb2
    have HO2 : Hid (Own w2 k (.slice ea' (ln k T2) ec') T2 b2) := o2
    have HR2 : Hid (∀ b ∈ b2, w1.heap.size ≤ b ∧ b < w2.heap.size) := r2
    have HN2 : Hid _ := n2
    have hs2 : w1.heap.size ≤ w2.heap.size := hb2.size
    clear x0 x1 x2 x3 x4 x5 x6 x7 y0 y1 y2 y3 y4 y5 y6 y7
    obtain ⟨⟨x0, x1, x2, x3, x4, x5, x6, x7⟩, y0, y1, y2, y3, y4, y5, y6, y7⟩ := X1
    clear hb2 o2 r2 n2
    refine hK.out _ _ trivial (fun _ => ?_)
    clear hK K
    refine wpAnyH_ready (rs := [7]) (by kernel_rfl) (by simp) ?_
    refine AllReadyH.cons rfl (fun K hK => ?_) AllReadyH.nil
    go_simp
    refine hK.out _ _ trivial (fun _ => ?_)
    clear hK K
    refine' wpAnyH_take (i := 8) (v := _) rfl (by kernel_rfl) (by kernel_rfl) (by kernel_rfl) (fun _ _ _ h => h) (Or.inl ⟨by rfl, ?hy1008⟩) trivial ?hn1008
    case hy1008 => (intro wz hSw; go_simp; first | done | with_reducible rfl)
    try simp only [List.getElem_toArray, List.getElem_cons_zero, List.getElem_cons_succ, Act.put, List.setIfInBounds_toArray, List.set_cons_zero, List.set_cons_succ]
    refine wpAnyH_ready (rs := [9]) (by kernel_rfl) (by simp) ?_
    refine AllReadyH.cons rfl (fun K hK => ?_) AllReadyH.nil
    go_simp
    refine hK.out _ _ trivial (fun _ => ?_)
    clear hK K
    refine wpAnyH_done (by kernel_rfl) ?_ _
    clear x0 x1 x2 x3 x4 x5 x6 x7 y0 y1 y2 y3 y4 y5 y6 y7
    have Y1 := (HY1.out.set6 (.slice ta' (ln k T1) tc')).set7 (.slice ea' (ln k T2) ec')
    have Y2 := (HY2.out.far (a := ⟨w.heap.size, 6, none⟩) (by show w.heap.size ≠ w.heap.size + 1; omega) (.slice ta' (ln k T1) tc')).far (a := ⟨w.heap.size, 7, none⟩) (by show w.heap.size ≠ w.heap.size + 1; omega) (.slice ea' (ln k T2) ec')
    obtain ⟨⟨x0, x1, x2, x3, x4, x5, x6, x7⟩, y0, y1, y2, y3, y4, y5, y6, y7⟩ := Y1
    obtain ⟨⟨z0, z1, z2, z3, z4, z5, z6, z7⟩, u0, u1, u2, u3, u4, u5, u6, u7⟩ := Y2
    go_wp2
    have B2 : Below w.heap.size w w2 := Below.then HB1.out HB2.out (by omega)
    have AF := ((((((((((HY2.out.far (a := ⟨w.heap.size, 6, none⟩) (by show w.heap.size ≠ w.heap.size + 1; omega) (.slice ta' (ln k T1) tc')).far (a := ⟨w.heap.size, 7, none⟩) (by show w.heap.size ≠ w.heap.size + 1; omega) (.slice ea' (ln k T2) ec')).set0 (.int .i64 p.k)).set1 (.int .i64 p.v)).set2 (.int .i64 p.vk)).set3 (.int .i64 p.va)).set4 (.int .i64 p.vb)).set5 (.int .i64 p.h)).set6 (.slice ta' (ln k T1) tc')).set7 (.slice ea' (ln k T2) ec'))
    have BF := ((((((((((B2.setCell (p := ⟨w.heap.size, 6, none⟩) (Nat.le_refl _) (.slice ta' (ln k T1) tc')).setCell (p := ⟨w.heap.size, 7, none⟩) (Nat.le_refl _) (.slice ea' (ln k T2) ec')).setCell (p := ⟨w.heap.size + 1, 0, none⟩) (by show w.heap.size ≤ w.heap.size + 1; omega) (.int .i64 p.k)).setCell (p := ⟨w.heap.size + 1, 1, none⟩) (by show w.heap.size ≤ w.heap.size + 1; omega) (.int .i64 p.v)).setCell (p := ⟨w.heap.size + 1, 2, none⟩) (by show w.heap.size ≤ w.heap.size + 1; omega) (.int .i64 p.vk)).setCell (p := ⟨w.heap.size + 1, 3, none⟩) (by show w.heap.size ≤ w.heap.size + 1; omega) (.int .i64 p.va)).setCell (p := ⟨w.heap.size + 1, 4, none⟩) (by show w.heap.size ≤ w.heap.size + 1; omega) (.int .i64 p.vb)).setCell (p := ⟨w.heap.size + 1, 5, none⟩) (by show w.heap.size ≤ w.heap.size + 1; omega) (.int .i64 p.h)).setCell (p := ⟨w.heap.size + 1, 6, none⟩) (by show w.heap.size ≤ w.heap.size + 1; omega) (.slice ta' (ln k T1) tc')).setCell (p := ⟨w.heap.size + 1, 7, none⟩) (by show w.heap.size ≤ w.heap.size + 1; omega) (.slice ea' (ln k T2) ec'))
    have hh : ∀ b, b ≠ w.heap.size + 1 → b ≠ w.heap.size → ((((((((((w2.setCell ⟨w.heap.size, 6, none⟩ (.slice ta' (ln k T1) tc')).setCell ⟨w.heap.size, 7, none⟩ (.slice ea' (ln k T2) ec')).setCell ⟨w.heap.size + 1, 0, none⟩ (.int .i64 p.k)).setCell ⟨w.heap.size + 1, 1, none⟩ (.int .i64 p.v)).setCell ⟨w.heap.size + 1, 2, none⟩ (.int .i64 p.vk)).setCell ⟨w.heap.size + 1, 3, none⟩ (.int .i64 p.va)).setCell ⟨w.heap.size + 1, 4, none⟩ (.int .i64 p.vb)).setCell ⟨w.heap.size + 1, 5, none⟩ (.int .i64 p.h)).setCell ⟨w.heap.size + 1, 6, none⟩ (.slice ta' (ln k T1) tc')).setCell ⟨w.heap.size + 1, 7, none⟩ (.slice ea' (ln k T2) ec')).heap[b]? = w2.heap[b]? := fun b h1 h2 => by
      rw [Below.heap_setCell _ _ _ _ h1, Below.heap_setCell _ _ _ _ h1, Below.heap_setCell _ _ _ _ h1, Below.heap_setCell _ _ _ _ h1, Below.heap_setCell _ _ _ _ h1, Below.heap_setCell _ _ _ _ h1, Below.heap_setCell _ _ _ _ h1, Below.heap_setCell _ _ _ _ h1, Below.heap_setCell _ _ _ _ h2, Below.heap_setCell _ _ _ _ h2]
    have sF : ((((((((((w2.setCell ⟨w.heap.size, 6, none⟩ (.slice ta' (ln k T1) tc')).setCell ⟨w.heap.size, 7, none⟩ (.slice ea' (ln k T2) ec')).setCell ⟨w.heap.size + 1, 0, none⟩ (.int .i64 p.k)).setCell ⟨w.heap.size + 1, 1, none⟩ (.int .i64 p.v)).setCell ⟨w.heap.size + 1, 2, none⟩ (.int .i64 p.vk)).setCell ⟨w.heap.size + 1, 3, none⟩ (.int .i64 p.va)).setCell ⟨w.heap.size + 1, 4, none⟩ (.int .i64 p.vb)).setCell ⟨w.heap.size + 1, 5, none⟩ (.int .i64 p.h)).setCell ⟨w.heap.size + 1, 6, none⟩ (.slice ta' (ln k T1) tc')).setCell ⟨w.heap.size + 1, 7, none⟩ (.slice ea' (ln k T2) ec')).heap.size = w2.heap.size := by simp [World.setCell]
    generalize ((((((((((w2.setCell ⟨w.heap.size, 6, none⟩ (.slice ta' (ln k T1) tc')).setCell ⟨w.heap.size, 7, none⟩ (.slice ea' (ln k T2) ec')).setCell ⟨w.heap.size + 1, 0, none⟩ (.int .i64 p.k)).setCell ⟨w.heap.size + 1, 1, none⟩ (.int .i64 p.v)).setCell ⟨w.heap.size + 1, 2, none⟩ (.int .i64 p.vk)).setCell ⟨w.heap.size + 1, 3, none⟩ (.int .i64 p.va)).setCell ⟨w.heap.size + 1, 4, none⟩ (.int .i64 p.vb)).setCell ⟨w.heap.size + 1, 5, none⟩ (.int .i64 p.h)).setCell ⟨w.heap.size + 1, 6, none⟩ (.slice ta' (ln k T1) tc')).setCell ⟨w.heap.size + 1, 7, none⟩ (.slice ea' (ln k T2) ec')) = wf at *
    have r1 : ∀ b ∈ b1, w.heap.size + 1 < b ∧ b < w1.heap.size := HR1.out
    have r2 : ∀ b ∈ b2, w1.heap.size ≤ b ∧ b < w2.heap.size := HR2.out
    obtain ⟨⟨c0, c1, c2, c3, c4, c5, c6, c7⟩, _⟩ := AF
    refine bodyPost_ret (v := .agg #[.int .i64 p.k, .int .i64 p.v, .int .i64 p.vk, .int .i64 p.va, .int .i64 p.vb, .int .i64 p.h, .slice ta' (ln k T1) tc', .slice ea' (ln k T2) ec']) (by simp [results, Try.results76, go_sem, c0, c1, c2, c3, c4, c5, c6, c7]) rfl ⟨_, _, b1, b2, rfl, BF, ?_, ?_, ?_, ?_⟩
    · exact Own.frame (fun b hb => hh b (by have := r1 b hb; omega) (by have := r1 b hb; omega)) (Own.below HO1.out HB2.out (fun b hb => (r1 b hb).2))
    · exact Own.frame (fun b hb => hh b (by have := r2 b hb; omega) (by have := r2 b hb; omega)) HO2.out
    · intro b hb
      rcases List.mem_append.1 hb with hb | hb
      · have := r1 b hb; omega
      · have := r2 b hb; omega
    · refine List.nodup_append.2 ⟨HN1.out, HN2.out, ?_⟩
      intro a ha b hb
      have := r1 a ha
      have := r2 b hb
      omega

end Go.Proofs.Ytpcmhkcahajdgaa
