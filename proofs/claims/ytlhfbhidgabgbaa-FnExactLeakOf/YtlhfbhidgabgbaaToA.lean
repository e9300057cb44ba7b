/- An argument laid anew: a step. -/
import Derived.Test.YtlhfbhidgabgbaaOwn
namespace Go.Proofs.Ytlhfbhidgabgbaa
open Go.RowKit
set_option linter.unusedSimpArgs false
set_option linter.unusedVariables false
attribute [local go_sem] World.cell?_alloc_some

theorem toVal_any (a b c : Int) (w : World) :
    Calls Try.prog 112 #[.agg #[.int .i64 a, .int .i64 b, .int .i64 c]] w fun e w' => e = .returned (.agg #[.int .i64 a, .int .i64 b, .int .i64 c]) ∧ Below w.heap.size w w' := by
  go_enter Try.func112, Try.ntmps112
  go_wp2
  refine bodyPost_ret (v := .agg #[.int .i64 a, .int .i64 b, .int .i64 c]) (by simp [results, Try.results112, go_sem]) rfl ⟨rfl, ?_⟩
  repeat' (first | exact Below.refl _ _ | assumption | (refine Below.drew ?_) | (refine Below.then ?_ (by assumption) ?_) | (refine Below.alloc ?_ ?_ _) | (refine Below.setCell ?_ ?_ _) | (simp; done) | (simp at *; omega) | omega)

set_option maxHeartbeats 4000000 in
theorem toStep_of (d : Nat) (T1 T2 : Tr d) (p : Pay) (ta ea : Option Addr) (lt tc le ec : Nat) (w : World)
    (c1 : ∀ wx, Below w.heap.size w wx → Calls Try.prog 63 #[.slice ta lt tc] wx fun e w' => ∃ v' bs, e = .returned v' ∧ Below wx.heap.size wx w' ∧ Own w' d v' T1 bs ∧ (∀ b ∈ bs, wx.heap.size ≤ b ∧ b < w'.heap.size) ∧ bs.Nodup)
    (c2 : ∀ wx, Below w.heap.size w wx → Calls Try.prog 63 #[.slice ea le ec] wx fun e w' => ∃ v' bs, e = .returned v' ∧ Below wx.heap.size wx w' ∧ Own w' d v' T2 bs ∧ (∀ b ∈ bs, wx.heap.size ≤ b ∧ b < w'.heap.size) ∧ bs.Nodup) :
    Calls Try.prog 91 #[.agg #[.int .i64 p.k, .int .i64 p.v, .int .i64 p.vk, .int .i64 p.va, .int .i64 p.vb, .int .i64 p.h, .slice ta lt tc, .slice ea le ec]] w
      fun e w' => ∃ t' e' b1 b2, e = .returned (.agg #[.int .i64 p.k, .int .i64 p.v, .int .i64 p.vk, .int .i64 p.va, .int .i64 p.vb, .int .i64 p.h, t', e']) ∧ Below w.heap.size w w' ∧ Own w' d t' T1 b1 ∧ Own w' d e' T2 b2 ∧ (∀ b ∈ b1 ++ b2, w.heap.size ≤ b ∧ b < w'.heap.size) ∧ (b1 ++ b2).Nodup := by
  have C1 : Hid _ := c1
  have C2 : Hid _ := c2
  clear c1 c2
  go_enter Try.func91, Try.ntmps91
  go_wp2_with fail
  have A1 := C8.new w (.int .i64 p.k) (.int .i64 p.v) (.int .i64 p.vk) (.int .i64 p.va) (.int .i64 p.vb) (.int .i64 p.h) (.slice ta lt tc) (.slice ea le ec) 123
  have A2 := C8.new (w.alloc (.cells #[.int .i64 p.k, .int .i64 p.v, .int .i64 p.vk, .int .i64 p.va, .int .i64 p.vb, .int .i64 p.h, .slice ta lt tc, .slice ea le ec] 123)) (.int .i64 0) (.int .i64 0) (.int .i64 0) (.int .i64 0) (.int .i64 0) (.int .i64 0) (.slice none 0 0) (.slice none 0 0) 91
  have A3 := C8.new ((w.alloc (.cells #[.int .i64 p.k, .int .i64 p.v, .int .i64 p.vk, .int .i64 p.va, .int .i64 p.vb, .int .i64 p.h, .slice ta lt tc, .slice ea le ec] 123)).alloc (.cells #[.int .i64 0, .int .i64 0, .int .i64 0, .int .i64 0, .int .i64 0, .int .i64 0, .slice none 0 0, .slice none 0 0] 91)) (.int .i64 p.k) (.int .i64 p.v) (.int .i64 0) (.int .i64 0) (.int .i64 0) (.int .i64 0) (.slice none 0 0) (.slice none 0 0) 91
  replace A1 := (A1.below (((Below.refl _ _).alloc (Nat.le_refl _) (.cells #[.int .i64 0, .int .i64 0, .int .i64 0, .int .i64 0, .int .i64 0, .int .i64 0, .slice none 0 0, .slice none 0 0] 91)))).below ((Below.refl _ _).alloc (Nat.le_refl _) (.cells #[.int .i64 p.k, .int .i64 p.v, .int .i64 0, .int .i64 0, .int .i64 0, .int .i64 0, .slice none 0 0, .slice none 0 0] 91))
  replace A2 := A2.below ((Below.refl _ _).alloc (Nat.le_refl _) (.cells #[.int .i64 p.k, .int .i64 p.v, .int .i64 0, .int .i64 0, .int .i64 0, .int .i64 0, .slice none 0 0, .slice none 0 0] 91))
  rw [show (w.alloc (.cells #[.int .i64 p.k, .int .i64 p.v, .int .i64 p.vk, .int .i64 p.va, .int .i64 p.vb, .int .i64 p.h, .slice ta lt tc, .slice ea le ec] 123)).heap.size = w.heap.size + 1 by simp] at A2
  rw [show ((w.alloc (.cells #[.int .i64 p.k, .int .i64 p.v, .int .i64 p.vk, .int .i64 p.va, .int .i64 p.vb, .int .i64 p.h, .slice ta lt tc, .slice ea le ec] 123)).alloc (.cells #[.int .i64 0, .int .i64 0, .int .i64 0, .int .i64 0, .int .i64 0, .int .i64 0, .slice none 0 0, .slice none 0 0] 91)).heap.size = w.heap.size + 1 + 1 by simp] at A3
  go_at_call 112; refine (toVal_any _ _ _ _).mono ?_; rintro e w1 ⟨rfl, hb1⟩
  replace A1 := A1.below hb1
  replace A2 := A2.below hb1
  replace A3 := A3.below hb1
  have B1 : Below w.heap.size w w1 := Below.then ((((Below.refl _ _).alloc (Nat.le_refl _) _).alloc (by simp) _).alloc (by simp; omega) _) hb1 (by simp; omega)
  have s1 : w.heap.size + 1 + 1 < w1.heap.size := by have := hb1.size; simp at this; omega
  clear hb1
  have A1' := A1
  have A3' := A3
  have H2 : Hid _ := A2
  obtain ⟨⟨x0, x1, x2, x3, x4, x5, x6, x7⟩, y0, y1, y2, y3, y4, y5, y6, y7⟩ := A1
  obtain ⟨⟨z0, z1, z2, z3, z4, z5, z6, z7⟩, u0, u1, u2, u3, u4, u5, u6, u7⟩ := A3
  have HA1 : Hid (C8 w1 w.heap.size (.int .i64 p.k) (.int .i64 p.v) (.int .i64 p.vk) (.int .i64 p.va) (.int .i64 p.vb) (.int .i64 p.h) (.slice ta lt tc) (.slice ea le ec)) := A1'
  have HA2 : Hid (C8 w1 (w.heap.size + 1) (.int .i64 0) (.int .i64 0) (.int .i64 0) (.int .i64 0) (.int .i64 0) (.int .i64 0) (.slice none 0 0) (.slice none 0 0)) := A2
  have HA3 : Hid (C8 w1 (w.heap.size + 1 + 1) (.int .i64 p.k) (.int .i64 p.v) (.int .i64 0) (.int .i64 0) (.int .i64 0) (.int .i64 0) (.slice none 0 0) (.slice none 0 0)) := A3'
  clear x0 x1 x2 x3 x4 y0 y1 y2 y3 y4 y5 y6 y7 A2 A1' A3' H2
  go_wp2_with fail
  have B2 : Below w.heap.size w ((((w1.setCell ⟨w.heap.size + 1 + 1, 2, none⟩ (.int .i64 p.vk)).setCell ⟨w.heap.size + 1 + 1, 3, none⟩ (.int .i64 p.va)).setCell ⟨w.heap.size + 1 + 1, 4, none⟩ (.int .i64 p.vb)).setCell ⟨w.heap.size + 1 + 1, 5, none⟩ (.int .i64 p.h)) :=
    (((B1.setCell (by simp; omega) _).setCell (by simp; omega) _).setCell (by simp; omega) _).setCell (by simp; omega) _
  have A3 := (((HA3.out.set2 (.int .i64 p.vk)).set3 (.int .i64 p.va)).set4 (.int .i64 p.vb)).set5 (.int .i64 p.h)
  have A1 := (((HA1.out.far (a := ⟨w.heap.size + 1 + 1, 2, none⟩) (by simp; omega) (.int .i64 p.vk)).far (a := ⟨w.heap.size + 1 + 1, 3, none⟩) (by simp; omega) (.int .i64 p.va)).far (a := ⟨w.heap.size + 1 + 1, 4, none⟩) (by simp; omega) (.int .i64 p.vb)).far (a := ⟨w.heap.size + 1 + 1, 5, none⟩) (by simp; omega) (.int .i64 p.h)
  have A2 := (((HA2.out.far (a := ⟨w.heap.size + 1 + 1, 2, none⟩) (by simp) (.int .i64 p.vk)).far (a := ⟨w.heap.size + 1 + 1, 3, none⟩) (by simp) (.int .i64 p.va)).far (a := ⟨w.heap.size + 1 + 1, 4, none⟩) (by simp) (.int .i64 p.vb)).far (a := ⟨w.heap.size + 1 + 1, 5, none⟩) (by simp) (.int .i64 p.h)
  have s1' : w.heap.size + 1 + 1 < ((((w1.setCell ⟨w.heap.size + 1 + 1, 2, none⟩ (.int .i64 p.vk)).setCell ⟨w.heap.size + 1 + 1, 3, none⟩ (.int .i64 p.va)).setCell ⟨w.heap.size + 1 + 1, 4, none⟩ (.int .i64 p.vb)).setCell ⟨w.heap.size + 1 + 1, 5, none⟩ (.int .i64 p.h)).heap.size := by simpa [World.setCell] using s1
  clear HA1 HA2 HA3 x5 x6 x7 z0 z1 z2 z3 z4 z5 z6 z7 u0 u1 u2 u3 u4 u5 u6 u7 B1 s1
  go_at_call 63; refine (C1.out _ B2).mono ?_
  generalize ((((w1.setCell ⟨w.heap.size + 1 + 1, 2, none⟩ (.int .i64 p.vk)).setCell ⟨w.heap.size + 1 + 1, 3, none⟩ (.int .i64 p.va)).setCell ⟨w.heap.size + 1 + 1, 4, none⟩ (.int .i64 p.vb)).setCell ⟨w.heap.size + 1 + 1, 5, none⟩ (.int .i64 p.h)) = w2 at *
  rintro e w3 ⟨t', b1, rfl, hb3, o1, r1, n1⟩
  obtain ⟨ta', tc', rfl⟩ := o1.slice
  replace A1 := A1.below hb3
  replace A2 := A2.below hb3
  replace A3 := A3.below hb3
  have B3 : Below w.heap.size w w3 := Below.then B2 hb3 B2.size
  have s3 : w2.heap.size ≤ w3.heap.size := hb3.size
  have HA1 : Hid (C8 w3 w.heap.size (.int .i64 p.k) (.int .i64 p.v) (.int .i64 p.vk) (.int .i64 p.va) (.int .i64 p.vb) (.int .i64 p.h) (.slice ta lt tc) (.slice ea le ec)) := A1
  have HA2 : Hid (C8 w3 (w.heap.size + 1) (.int .i64 0) (.int .i64 0) (.int .i64 0) (.int .i64 0) (.int .i64 0) (.int .i64 0) (.slice none 0 0) (.slice none 0 0)) := A2
  have HA3 : Hid (C8 w3 (w.heap.size + 1 + 1) (.int .i64 p.k) (.int .i64 p.v) (.int .i64 p.vk) (.int .i64 p.va) (.int .i64 p.vb) (.int .i64 p.h) (.slice none 0 0) (.slice none 0 0)) := A3
  have HO1 : Hid _ := o1
  have HR1 : Hid _ := r1
  have HN1 : Hid _ := n1
  obtain ⟨⟨x0, x1, x2, x3, x4, x5, x6, x7⟩, y0, y1, y2, y3, y4, y5, y6, y7⟩ := A1
  obtain ⟨⟨z0, z1, z2, z3, z4, z5, z6, z7⟩, u0, u1, u2, u3, u4, u5, u6, u7⟩ := A3
  clear hb3 o1 r1 n1 A2 x0 x1 x2 x3 x4 x5 x6 y0 y1 y2 y3 y4 y5 y6 y7 B2
  go_wp2_with fail
  have r1 : ∀ b ∈ b1, w2.heap.size ≤ b ∧ b < w3.heap.size := HR1.out
  have ne1 : ∀ b ∈ b1, b ≠ w.heap.size + 1 + 1 := fun b hb => by have := r1 b hb; omega
  have B4 : Below w.heap.size w (w3.setCell ⟨w.heap.size + 1 + 1, 6, none⟩ (.slice ta' (ln d T1) tc')) := B3.setCell (by simp; omega) _
  have A3 := HA3.out.set6 (.slice ta' (ln d T1) tc')
  have A2 := HA2.out.far (a := ⟨w.heap.size + 1 + 1, 6, none⟩) (by simp) (.slice ta' (ln d T1) tc')
  have o1 : Own (w3.setCell ⟨w.heap.size + 1 + 1, 6, none⟩ (.slice ta' (ln d T1) tc')) d (.slice ta' (ln d T1) tc') T1 b1 := Own.set HO1.out (a := ⟨w.heap.size + 1 + 1, 6, none⟩) ne1 _
  have s4 : (w3.setCell ⟨w.heap.size + 1 + 1, 6, none⟩ (.slice ta' (ln d T1) tc')).heap.size = w3.heap.size := by simp [World.setCell]
  clear HA1 HA2 HA3 x7 z0 z1 z2 z3 z4 z5 z6 z7 u0 u1 u2 u3 u4 u5 u6 u7 B3 HO1 HR1
  go_at_call 63; refine (C2.out _ B4).mono ?_
  generalize (w3.setCell ⟨w.heap.size + 1 + 1, 6, none⟩ (.slice ta' (ln d T1) tc')) = w4 at *
  rintro e w5 ⟨e', b2, rfl, hb5, o2, r2, n2⟩
  obtain ⟨ea', ec', rfl⟩ := o2.slice
  replace A2 := A2.below hb5
  replace A3 := A3.below hb5
  have lt1 : ∀ b ∈ b1, b < w4.heap.size := fun b hb => by have := r1 b hb; omega
  replace o1 := o1.below hb5 lt1
  have B5 : Below w.heap.size w w5 := Below.then B4 hb5 B4.size
  have s5 : w4.heap.size ≤ w5.heap.size := hb5.size
  have HA2 : Hid (C8 w5 (w.heap.size + 1) (.int .i64 0) (.int .i64 0) (.int .i64 0) (.int .i64 0) (.int .i64 0) (.int .i64 0) (.slice none 0 0) (.slice none 0 0)) := A2
  have HO1 : Hid _ := o1
  have HO2 : Hid _ := o2
  have HR1 : Hid _ := r1
  have HR2 : Hid _ := r2
  have HN2 : Hid _ := n2
  obtain ⟨⟨x0, x1, x2, x3, x4, x5, x6, x7⟩, y0, y1, y2, y3, y4, y5, y6, y7⟩ := A2
  obtain ⟨⟨z0, z1, z2, z3, z4, z5, z6, z7⟩, u0, u1, u2, u3, u4, u5, u6, u7⟩ := A3
  clear hb5 o1 r1 n2 r2 o2 B4 ne1 lt1
  go_wp2
  have AF := (((((((((HA2.out.far (a := ⟨w.heap.size + 1 + 1, 7, none⟩) (by simp) (.slice ea' (ln d T2) ec')).set0 (.int .i64 p.k)).set1 (.int .i64 p.v)).set2 (.int .i64 p.vk)).set3 (.int .i64 p.va)).set4 (.int .i64 p.vb)).set5 (.int .i64 p.h)).set6 (.slice ta' (ln d T1) tc')).set7 (.slice ea' (ln d T2) ec'))
  have BF := (((((((((B5.setCell (p := ⟨w.heap.size + 1 + 1, 7, none⟩) (by simp; omega) (.slice ea' (ln d T2) ec')).setCell (p := ⟨w.heap.size + 1, 0, none⟩) (by simp) (.int .i64 p.k)).setCell (p := ⟨w.heap.size + 1, 1, none⟩) (by simp) (.int .i64 p.v)).setCell (p := ⟨w.heap.size + 1, 2, none⟩) (by simp) (.int .i64 p.vk)).setCell (p := ⟨w.heap.size + 1, 3, none⟩) (by simp) (.int .i64 p.va)).setCell (p := ⟨w.heap.size + 1, 4, none⟩) (by simp) (.int .i64 p.vb)).setCell (p := ⟨w.heap.size + 1, 5, none⟩) (by simp) (.int .i64 p.h)).setCell (p := ⟨w.heap.size + 1, 6, none⟩) (by simp) (.slice ta' (ln d T1) tc')).setCell (p := ⟨w.heap.size + 1, 7, none⟩) (by simp) (.slice ea' (ln d T2) ec'))
  have hh : ∀ b, b ≠ w.heap.size + 1 → b ≠ w.heap.size + 1 + 1 → (((((((((w5.setCell ⟨w.heap.size + 1 + 1, 7, none⟩ (.slice ea' (ln d T2) ec')).setCell ⟨w.heap.size + 1, 0, none⟩ (.int .i64 p.k)).setCell ⟨w.heap.size + 1, 1, none⟩ (.int .i64 p.v)).setCell ⟨w.heap.size + 1, 2, none⟩ (.int .i64 p.vk)).setCell ⟨w.heap.size + 1, 3, none⟩ (.int .i64 p.va)).setCell ⟨w.heap.size + 1, 4, none⟩ (.int .i64 p.vb)).setCell ⟨w.heap.size + 1, 5, none⟩ (.int .i64 p.h)).setCell ⟨w.heap.size + 1, 6, none⟩ (.slice ta' (ln d T1) tc')).setCell ⟨w.heap.size + 1, 7, none⟩ (.slice ea' (ln d T2) ec')).heap[b]? = w5.heap[b]? := fun b h1 h2 => by
    rw [Below.heap_setCell _ _ _ _ h1, Below.heap_setCell _ _ _ _ h1, Below.heap_setCell _ _ _ _ h1, Below.heap_setCell _ _ _ _ h1, Below.heap_setCell _ _ _ _ h1, Below.heap_setCell _ _ _ _ h1, Below.heap_setCell _ _ _ _ h1, Below.heap_setCell _ _ _ _ h1, Below.heap_setCell _ _ _ _ h2]
  have sF : (((((((((w5.setCell ⟨w.heap.size + 1 + 1, 7, none⟩ (.slice ea' (ln d T2) ec')).setCell ⟨w.heap.size + 1, 0, none⟩ (.int .i64 p.k)).setCell ⟨w.heap.size + 1, 1, none⟩ (.int .i64 p.v)).setCell ⟨w.heap.size + 1, 2, none⟩ (.int .i64 p.vk)).setCell ⟨w.heap.size + 1, 3, none⟩ (.int .i64 p.va)).setCell ⟨w.heap.size + 1, 4, none⟩ (.int .i64 p.vb)).setCell ⟨w.heap.size + 1, 5, none⟩ (.int .i64 p.h)).setCell ⟨w.heap.size + 1, 6, none⟩ (.slice ta' (ln d T1) tc')).setCell ⟨w.heap.size + 1, 7, none⟩ (.slice ea' (ln d T2) ec')).heap.size = w5.heap.size := by simp [World.setCell]
  generalize (((((((((w5.setCell ⟨w.heap.size + 1 + 1, 7, none⟩ (.slice ea' (ln d T2) ec')).setCell ⟨w.heap.size + 1, 0, none⟩ (.int .i64 p.k)).setCell ⟨w.heap.size + 1, 1, none⟩ (.int .i64 p.v)).setCell ⟨w.heap.size + 1, 2, none⟩ (.int .i64 p.vk)).setCell ⟨w.heap.size + 1, 3, none⟩ (.int .i64 p.va)).setCell ⟨w.heap.size + 1, 4, none⟩ (.int .i64 p.vb)).setCell ⟨w.heap.size + 1, 5, none⟩ (.int .i64 p.h)).setCell ⟨w.heap.size + 1, 6, none⟩ (.slice ta' (ln d T1) tc')).setCell ⟨w.heap.size + 1, 7, none⟩ (.slice ea' (ln d T2) ec')) = wf at *
  have r1 : ∀ b ∈ b1, w2.heap.size ≤ b ∧ b < w3.heap.size := HR1.out
  have r2 : ∀ b ∈ b2, w4.heap.size ≤ b ∧ b < w5.heap.size := HR2.out
  obtain ⟨⟨c0, c1, c2, c3, c4, c5, c6, c7⟩, _⟩ := AF
  refine bodyPost_ret (v := .agg #[.int .i64 p.k, .int .i64 p.v, .int .i64 p.vk, .int .i64 p.va, .int .i64 p.vb, .int .i64 p.h, .slice ta' (ln d T1) tc', .slice ea' (ln d T2) ec']) (by simp [results, Try.results91, go_sem, c0, c1, c2, c3, c4, c5, c6, c7]) rfl ⟨_, _, b1, b2, rfl, BF, ?_, ?_, ?_, ?_⟩
  · exact Own.frame (fun b hb => hh b (by have := r1 b hb; omega) (by have := r1 b hb; omega)) HO1.out
  · exact Own.frame (fun b hb => hh b (by have := r2 b hb; omega) (by have := r2 b hb; omega)) HO2.out
  · intro b hb
    rcases List.mem_append.1 hb with hb | hb
    · have := r1 b hb; omega
    · have := r2 b hb; omega
  · refine List.nodup_append.2 ⟨HN1.out, HN2.out, ?_⟩
    intro a ha b hb
    have := r1 a ha
    have := r2 b hb
    omega

end Go.Proofs.Ytlhfbhidgabgbaa
