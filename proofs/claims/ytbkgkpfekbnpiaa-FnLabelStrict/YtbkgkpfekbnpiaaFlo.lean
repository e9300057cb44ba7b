/- Contracts of LabelFlows, LabelBoth and LabelEither, of the program and of the model. -/
import Derived.Test.YtbkgkpfekbnpiaaBit
import Derived.Deep.RegionHeld3
import Derived.Deep.DrawnRows
namespace Go.Proofs.Ytbkgkpfekbnpiaa
open Go.RowKit
set_option linter.unusedSimpArgs false
set_option linter.unusedVariables false
attribute [local go_sem] World.cell?_alloc_some
attribute [local go_sem ↓] Go.wp_at_zero Go.wp_at_succ

def flB (ak at' bk bt : Int) : Bool := okB ak at' && okB bk bt && covB ak bk && covB at' bt

theorem okB_iff {k t : Int} : okB k t = true ↔ (0 ≤ k ∧ k ≤ 7) ∧ (0 ≤ t ∧ t ≤ 7) := by simp [okB, inB_iff]

theorem sLabelFlows_any (ak at' bk bt : Int) (w : World) :
    Calls Try.prog 19 #[.agg #[.int .i64 ak, .int .i64 at'], .agg #[.int .i64 bk, .int .i64 bt]] w fun e w' => e = .returned (.bool (flB ak at' bk bt)) ∧ Below w.heap.size w w' := by
  unfold flB
  cases ha : okB ak at'
  · go_enter Try.func19, Try.ntmps19
    go_wp2_with fail
    refine (sLabelOk_any _ _ _).mono ?_; rintro e w1 ⟨rfl, hb1⟩
    go_wp2
    go_ret
    refine ⟨by simp [ha], ?_⟩
    repeat' (first | exact Below.refl _ _ | assumption | (refine Below.drew ?_) | (refine Below.then ?_ (by assumption) ?_) | (refine Below.alloc ?_ ?_ _) | (refine Below.setCell ?_ ?_ _) | (simp; done) | (simp at *; omega) | omega)
  · cases hb : okB bk bt
    · go_enter Try.func19, Try.ntmps19
      go_wp2_with fail
      refine (sLabelOk_any _ _ _).mono ?_; rintro e w1 ⟨rfl, hb1⟩; obtain ⟨hc1, hf1⟩ := bcell hb1; have hz1 : w.heap.size + 1 < w1.heap.size := by have := hb1.size; simp at this; omega
      go_wp2_with fail
      refine (sLabelOk_any _ _ _).mono ?_; rintro e w2 ⟨rfl, hb2⟩
      go_wp2
      go_ret
      refine ⟨by simp [ha, hb], ?_⟩
      clear hc1 hf1
      repeat' (first | exact Below.refl _ _ | assumption | (refine Below.drew ?_) | (refine Below.then ?_ (by assumption) ?_) | (refine Below.alloc ?_ ?_ _) | (refine Below.setCell ?_ ?_ _) | (simp; done) | (simp at *; omega) | omega)
    · have ia := okB_iff.1 ha
      have ib := okB_iff.1 hb
      cases hc : covB ak bk
      all_goals
        go_enter Try.func19, Try.ntmps19
        go_wp2_with fail
        refine (sLabelOk_any _ _ _).mono ?_; rintro e w1 ⟨rfl, hb1⟩; obtain ⟨hc1, hf1⟩ := bcell hb1; have hz1 : w.heap.size + 1 < w1.heap.size := by have := hb1.size; simp at this; omega
        have hz1' : w.heap.size < w1.heap.size := by omega
        go_wp2_with fail
        refine (sLabelOk_any _ _ _).mono ?_; rintro e w2 ⟨rfl, hb2⟩; obtain ⟨hc2, hf2⟩ := bcell hb2
        go_wp2_with (go_at_call 43; refine (l1Within_any _ _ _ (by omega) (by omega) (by omega) (by omega)).mono ?_; rintro e w3 ⟨rfl, rfl⟩)
        go_ret
        refine ⟨by simp [ha, hb, hc], ?_⟩
        clear hc1 hf1 hc2 hf2
        repeat' (first | exact Below.refl _ _ | assumption | (refine Below.drew ?_) | (refine Below.then ?_ (by assumption) ?_) | (refine Below.alloc ?_ ?_ _) | (refine Below.setCell ?_ ?_ _) | (simp; done) | (simp at *; omega) | omega)

theorem knowers_w (k t : Int) (w : World) :
    Calls Try.prog 40 #[.agg #[.int .i64 k, .int .i64 t]] w fun e w' => e = .returned (.int .i64 k) ∧ w.alloc (.cells #[.int .i64 k, .int .i64 t] 24) = w' := by
  go_enter Try.func40, Try.ntmps40
  go_wp2
  go_ret
  exact ⟨rfl, rfl⟩
theorem trusters_w (k t : Int) (w : World) :
    Calls Try.prog 42 #[.agg #[.int .i64 k, .int .i64 t]] w fun e w' => e = .returned (.int .i64 t) ∧ w.alloc (.cells #[.int .i64 k, .int .i64 t] 24) = w' := by
  go_enter Try.func42, Try.ntmps42
  go_wp2
  go_ret
  exact ⟨rfl, rfl⟩
theorem labelFlows_any (ak at' bk bt : Int) (w : World) :
    Calls Try.prog 18 #[.agg #[.int .i64 ak, .int .i64 at'], .agg #[.int .i64 bk, .int .i64 bt]] w fun e w' => e = .returned (.bool (flB ak at' bk bt)) ∧ Below w.heap.size w w' := by
  unfold flB
  cases ha : okB ak at'
  · go_enter Try.func18, Try.ntmps18
    go_wp2_with fail
    refine (labelOk_any _ _ _).mono ?_; rintro e w1 ⟨rfl, hb1⟩
    go_wp2
    go_ret
    refine ⟨by simp [ha], ?_⟩
    repeat' (first | exact Below.refl _ _ | assumption | (refine Below.drew ?_) | (refine Below.then ?_ (by assumption) ?_) | (refine Below.alloc ?_ ?_ _) | (refine Below.setCell ?_ ?_ _) | (simp; done) | (simp at *; omega) | omega)
  · cases hb : okB bk bt
    · go_enter Try.func18, Try.ntmps18
      go_wp2_with fail
      refine (labelOk_any _ _ _).mono ?_; rintro e w1 ⟨rfl, hb1⟩; obtain ⟨hc1, hf1⟩ := bcell hb1; have hz1 : w.heap.size + 1 < w1.heap.size := by have := hb1.size; simp at this; omega
      go_wp2_with fail
      refine (labelOk_any _ _ _).mono ?_; rintro e w2 ⟨rfl, hb2⟩
      go_wp2
      go_ret
      refine ⟨by simp [ha, hb], ?_⟩
      clear hc1 hf1
      repeat' (first | exact Below.refl _ _ | assumption | (refine Below.drew ?_) | (refine Below.then ?_ (by assumption) ?_) | (refine Below.alloc ?_ ?_ _) | (refine Below.setCell ?_ ?_ _) | (simp; done) | (simp at *; omega) | omega)
    · have ia := okB_iff.1 ha
      have ib := okB_iff.1 hb
      cases hc : covB ak bk
      · go_enter Try.func18, Try.ntmps18
        go_wp2_with fail
        have c1 : ((w.alloc (.cells #[.int .i64 ak, .int .i64 at'] 24)).alloc (.cells #[.int .i64 bk, .int .i64 bt] 24)).cell? ⟨w.heap.size, 0, none⟩ = some (.int .i64 ak) := by simp [go_sem]
        have c2 : ((w.alloc (.cells #[.int .i64 ak, .int .i64 at'] 24)).alloc (.cells #[.int .i64 bk, .int .i64 bt] 24)).cell? ⟨w.heap.size, 1, none⟩ = some (.int .i64 at') := by simp [go_sem]
        have c3 : ((w.alloc (.cells #[.int .i64 ak, .int .i64 at'] 24)).alloc (.cells #[.int .i64 bk, .int .i64 bt] 24)).cell? ⟨w.heap.size + 1, 0, none⟩ = some (.int .i64 bk) := by simp [go_sem]
        have c4 : ((w.alloc (.cells #[.int .i64 ak, .int .i64 at'] 24)).alloc (.cells #[.int .i64 bk, .int .i64 bt] 24)).cell? ⟨w.heap.size + 1, 1, none⟩ = some (.int .i64 bt) := by simp [go_sem]
        refine (labelOk_any _ _ _).mono ?_; rintro e w1 ⟨rfl, hb1⟩
        have hz1 : w.heap.size + 1 < w1.heap.size := by have := hb1.size; simp at this; omega
        have B0 : Below w.heap.size w w1 := by
          repeat' (first | exact Below.refl _ _ | assumption | (refine Below.drew ?_) | (refine Below.then ?_ (by assumption) ?_) | (refine Below.alloc ?_ ?_ _) | (refine Below.setCell ?_ ?_ _) | (simp; done) | (simp at *; omega) | omega)
        replace c1 := cell_later hb1 c1
        replace c2 := cell_later hb1 c2
        replace c3 := cell_later hb1 c3
        replace c4 := cell_later hb1 c4
        clear hb1
        go_wp2_with fail
        refine (labelOk_any _ _ _).mono ?_; rintro e w2 ⟨rfl, hb2⟩
        replace c1 := cell_later hb2 c1
        replace c2 := cell_later hb2 c2
        replace c3 := cell_later hb2 c3
        replace c4 := cell_later hb2 c4
        replace B0 : Below w.heap.size w w2 := Below.then B0 hb2 (by omega)
        clear hb2 hz1
        go_wp2_with fail
        go_region_with (first
            | (go_at_call 40; refine (knowers_w _ _ _).mono ?_; rintro e w' ⟨rfl, rfl⟩)
            | (go_at_call 42; refine (trusters_w _ _ _).mono ?_; rintro e w' ⟨rfl, rfl⟩)
            | (go_at_call 41; refine (covers_any _ _ _ (by omega) (by omega) (by omega) (by omega)).mono ?_; rintro e w' ⟨rfl, rfl⟩))
        all_goals go_wp2
        all_goals go_ret
        all_goals
          clear c1 c2 c3 c4
          have B1 := B0.size
          refine ⟨by first | rfl | simp [ha, hb, hc, Act.put], ?_⟩
          repeat' (first | exact Below.refl _ _ | assumption | (refine Below.drew ?_) | (refine Below.then ?_ (by assumption) ?_) | (refine Below.alloc ?_ ?_ _) | (refine Below.setCell ?_ ?_ _) | (simp; done) | (simp at *; omega) | omega)
      · go_enter Try.func18, Try.ntmps18
        go_wp2_with fail
        have c1 : ((w.alloc (.cells #[.int .i64 ak, .int .i64 at'] 24)).alloc (.cells #[.int .i64 bk, .int .i64 bt] 24)).cell? ⟨w.heap.size, 0, none⟩ = some (.int .i64 ak) := by simp [go_sem]
        have c2 : ((w.alloc (.cells #[.int .i64 ak, .int .i64 at'] 24)).alloc (.cells #[.int .i64 bk, .int .i64 bt] 24)).cell? ⟨w.heap.size, 1, none⟩ = some (.int .i64 at') := by simp [go_sem]
        have c3 : ((w.alloc (.cells #[.int .i64 ak, .int .i64 at'] 24)).alloc (.cells #[.int .i64 bk, .int .i64 bt] 24)).cell? ⟨w.heap.size + 1, 0, none⟩ = some (.int .i64 bk) := by simp [go_sem]
        have c4 : ((w.alloc (.cells #[.int .i64 ak, .int .i64 at'] 24)).alloc (.cells #[.int .i64 bk, .int .i64 bt] 24)).cell? ⟨w.heap.size + 1, 1, none⟩ = some (.int .i64 bt) := by simp [go_sem]
        refine (labelOk_any _ _ _).mono ?_; rintro e w1 ⟨rfl, hb1⟩
        have hz1 : w.heap.size + 1 < w1.heap.size := by have := hb1.size; simp at this; omega
        have B0 : Below w.heap.size w w1 := by
          repeat' (first | exact Below.refl _ _ | assumption | (refine Below.drew ?_) | (refine Below.then ?_ (by assumption) ?_) | (refine Below.alloc ?_ ?_ _) | (refine Below.setCell ?_ ?_ _) | (simp; done) | (simp at *; omega) | omega)
        replace c1 := cell_later hb1 c1
        replace c2 := cell_later hb1 c2
        replace c3 := cell_later hb1 c3
        replace c4 := cell_later hb1 c4
        clear hb1
        go_wp2_with fail
        refine (labelOk_any _ _ _).mono ?_; rintro e w2 ⟨rfl, hb2⟩
        replace c1 := cell_later hb2 c1
        replace c2 := cell_later hb2 c2
        replace c3 := cell_later hb2 c3
        replace c4 := cell_later hb2 c4
        replace B0 : Below w.heap.size w w2 := Below.then B0 hb2 (by omega)
        clear hb2 hz1
        go_wp2_with fail
        go_region_held3 (fun w' => w'.cell? ⟨w.heap.size, 0, none⟩ = some (.int .i64 ak) ∧ w'.cell? ⟨w.heap.size, 1, none⟩ = some (.int .i64 at') ∧ w'.cell? ⟨w.heap.size + 1, 0, none⟩ = some (.int .i64 bk) ∧ w'.cell? ⟨w.heap.size + 1, 1, none⟩ = some (.int .i64 bt) ∧ Below w.heap.size w w')
          (first | (go_split_ands; refine ⟨?_, ?_, ?_, ?_, ?_⟩ <;> first | assumption | (simp [*]; done) | exact Below.drew (by assumption) | exact cell_later (by assumption) (by assumption) | exact Below.then (by assumption) (by assumption) (Below.size (by assumption))))
          (first
            | (go_at_call 40; refine (knowers_any _ _ _).mono ?_; rintro e w' ⟨rfl, hbx⟩)
            | (go_at_call 42; refine (trusters_any _ _ _).mono ?_; rintro e w' ⟨rfl, hbx⟩)
            | (go_at_call 41; refine (covers_any _ _ _ (by omega) (by omega) (by omega) (by omega)).mono ?_; rintro e w' ⟨rfl, rfl⟩))
        all_goals go_wp2
        all_goals go_ret
        all_goals (go_split_ands; refine ⟨by first | rfl | simp [ha, hb, hc, Act.put], by assumption⟩)

end Go.Proofs.Ytbkgkpfekbnpiaa
