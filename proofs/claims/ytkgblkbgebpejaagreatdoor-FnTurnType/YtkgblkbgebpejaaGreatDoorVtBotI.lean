/- Contracts of LabelBoth and LabelEither, of the program and of the model. -/
import Derived.Test.YtkgblkbgebpejaaGreatDoorVtLbl
namespace Go.Proofs.YtkgblkbgebpejaaGreatDoor
open Go.RowKit
set_option linter.unusedSimpArgs false
set_option linter.unusedVariables false
attribute [local go_sem ↓] Go.wp_at_zero Go.wp_at_succ


set_option maxHeartbeats 1000000 in
theorem labelBoth_any (ak at' bk bt : Int) (w : World) :
    Calls Tryz.prog 108 #[.agg #[.int .i64 ak, .int .i64 at'], .agg #[.int .i64 bk, .int .i64 bt]] w fun e w' => e = .returned (.agg #[.int .i64 (boK ak at' bk bt), .int .i64 (boT ak at' bk bt)]) ∧ Below w.heap.size w w' := by
  unfold boK boT
  cases ha : okB ak at'
  · go_enter Tryz.func108, Tryz.ntmps108
    go_wp2_with fail
    refine (labelOk_any _ _ _).mono ?_; rintro e w1 ⟨rfl, hb1⟩; obtain ⟨hc1, hf1⟩ := bcell hb1
    go_wp2
    refine bodyPost_ret (v := .agg #[.int .i64 0, .int .i64 0]) (by simp [results, Tryz.results108, go_sem, hc1]) rfl ⟨by simp [ha], ?_⟩
    clear hc1 hf1
    repeat' (first | exact Below.refl _ _ | assumption | (refine Below.drew ?_) | (refine Below.then ?_ (by assumption) ?_) | (refine Below.alloc ?_ ?_ _) | (refine Below.setCell ?_ ?_ _) | (simp; done) | (simp at *; omega) | omega)
  · cases hb : okB bk bt
    · go_enter Tryz.func108, Tryz.ntmps108
      go_wp2_with fail
      refine (labelOk_any _ _ _).mono ?_; rintro e w1 ⟨rfl, hb1⟩; obtain ⟨hc1, hf1⟩ := bcell hb1; have hz1 : w.heap.size + 2 < w1.heap.size := by have := hb1.size; simp at this; omega
      have hz2 : w.heap.size + 1 < w1.heap.size := by omega
      go_wp2_with fail
      refine (labelOk_any _ _ _).mono ?_; rintro e w2 ⟨rfl, hb2⟩; obtain ⟨hc2, hf2⟩ := bcell hb2
      go_wp2
      refine bodyPost_ret (v := .agg #[.int .i64 0, .int .i64 0]) (by simp [results, Tryz.results108, go_sem, hc1, hc2, hz1]) rfl ⟨by simp [ha, hb], ?_⟩
      clear hc1 hf1 hc2 hf2
      repeat' (first | exact Below.refl _ _ | assumption | (refine Below.drew ?_) | (refine Below.then ?_ (by assumption) ?_) | (refine Below.alloc ?_ ?_ _) | (refine Below.setCell ?_ ?_ _) | (simp; done) | (simp at *; omega) | omega)
    · have ia := okB_iff.1 ha
      have ib := okB_iff.1 hb
      go_enter Tryz.func108, Tryz.ntmps108
      go_wp2_with fail
      have c1 : (((w.alloc (.cells #[.int .i64 ak, .int .i64 at'] 58)).alloc (.cells #[.int .i64 bk, .int .i64 bt] 58)).alloc (.cells #[.int .i64 0, .int .i64 0] 58)).cell? ⟨w.heap.size, 0, none⟩ = some (.int .i64 ak) := by simp [go_sem]
      have c2 : (((w.alloc (.cells #[.int .i64 ak, .int .i64 at'] 58)).alloc (.cells #[.int .i64 bk, .int .i64 bt] 58)).alloc (.cells #[.int .i64 0, .int .i64 0] 58)).cell? ⟨w.heap.size, 1, none⟩ = some (.int .i64 at') := by simp [go_sem]
      have c3 : (((w.alloc (.cells #[.int .i64 ak, .int .i64 at'] 58)).alloc (.cells #[.int .i64 bk, .int .i64 bt] 58)).alloc (.cells #[.int .i64 0, .int .i64 0] 58)).cell? ⟨w.heap.size + 1, 0, none⟩ = some (.int .i64 bk) := by simp [go_sem]
      have c4 : (((w.alloc (.cells #[.int .i64 ak, .int .i64 at'] 58)).alloc (.cells #[.int .i64 bk, .int .i64 bt] 58)).alloc (.cells #[.int .i64 0, .int .i64 0] 58)).cell? ⟨w.heap.size + 1, 1, none⟩ = some (.int .i64 bt) := by simp [go_sem]
      have c5 : (((w.alloc (.cells #[.int .i64 ak, .int .i64 at'] 58)).alloc (.cells #[.int .i64 bk, .int .i64 bt] 58)).alloc (.cells #[.int .i64 0, .int .i64 0] 58)).cell? ⟨w.heap.size + 2, 0, none⟩ = some (cellAt (((w.alloc (.cells #[.int .i64 ak, .int .i64 at'] 58)).alloc (.cells #[.int .i64 bk, .int .i64 bt] 58)).alloc (.cells #[.int .i64 0, .int .i64 0] 58)) ⟨w.heap.size + 2, 0, none⟩) := cellAt_of (by simp [go_sem])
      have c6 : (((w.alloc (.cells #[.int .i64 ak, .int .i64 at'] 58)).alloc (.cells #[.int .i64 bk, .int .i64 bt] 58)).alloc (.cells #[.int .i64 0, .int .i64 0] 58)).cell? ⟨w.heap.size + 2, 1, none⟩ = some (cellAt (((w.alloc (.cells #[.int .i64 ak, .int .i64 at'] 58)).alloc (.cells #[.int .i64 bk, .int .i64 bt] 58)).alloc (.cells #[.int .i64 0, .int .i64 0] 58)) ⟨w.heap.size + 2, 1, none⟩) := cellAt_of (by simp [go_sem])
      have f5 : (((w.alloc (.cells #[.int .i64 ak, .int .i64 at'] 58)).alloc (.cells #[.int .i64 bk, .int .i64 bt] 58)).alloc (.cells #[.int .i64 0, .int .i64 0] 58)).frozen? ⟨w.heap.size + 2, 0, none⟩ = false := by simp [go_sem]
      have f6 : (((w.alloc (.cells #[.int .i64 ak, .int .i64 at'] 58)).alloc (.cells #[.int .i64 bk, .int .i64 bt] 58)).alloc (.cells #[.int .i64 0, .int .i64 0] 58)).frozen? ⟨w.heap.size + 2, 1, none⟩ = false := by simp [go_sem]
      refine (labelOk_any _ _ _).mono ?_; rintro e w1 ⟨rfl, hb1⟩
      have hz1 : w.heap.size + 2 < w1.heap.size := by have := hb1.size; simp at this; omega
      have B0 : Below w.heap.size w w1 := by
        clear c1 c2 c3 c4 c5 c6 f5 f6
        repeat' (first | exact Below.refl _ _ | assumption | (refine Below.drew ?_) | (refine Below.then ?_ (by assumption) ?_) | (refine Below.alloc ?_ ?_ _) | (refine Below.setCell ?_ ?_ _) | (simp; done) | (simp at *; omega) | omega)
      replace c1 := cell_later hb1 c1
      replace c2 := cell_later hb1 c2
      replace c3 := cell_later hb1 c3
      replace c4 := cell_later hb1 c4
      replace f5 := frozen_later hb1 c5 f5
      replace f6 := frozen_later hb1 c6 f6
      replace c5 := at_later hb1 c5
      replace c6 := at_later hb1 c6
      clear hb1
      go_wp2_with fail
      refine (labelOk_any _ _ _).mono ?_; rintro e w2 ⟨rfl, hb2⟩
      replace c1 := cell_later hb2 c1
      replace c2 := cell_later hb2 c2
      replace c3 := cell_later hb2 c3
      replace c4 := cell_later hb2 c4
      replace f5 := frozen_later hb2 c5 f5
      replace f6 := frozen_later hb2 c6 f6
      replace c5 := at_later hb2 c5
      replace c6 := at_later hb2 c6
      replace B0 : Below w.heap.size w w2 := Below.then B0 hb2 (by omega)
      clear hb2 hz1
      go_wp2_with fail
      go_region_held3 (fun w' => w'.cell? ⟨w.heap.size, 0, none⟩ = some (.int .i64 ak) ∧ w'.cell? ⟨w.heap.size, 1, none⟩ = some (.int .i64 at') ∧ w'.cell? ⟨w.heap.size + 1, 0, none⟩ = some (.int .i64 bk) ∧ w'.cell? ⟨w.heap.size + 1, 1, none⟩ = some (.int .i64 bt) ∧ w'.cell? ⟨w.heap.size + 2, 0, none⟩ = some (cellAt w' ⟨w.heap.size + 2, 0, none⟩) ∧ w'.cell? ⟨w.heap.size + 2, 1, none⟩ = some (cellAt w' ⟨w.heap.size + 2, 1, none⟩) ∧ w'.frozen? ⟨w.heap.size + 2, 0, none⟩ = false ∧ w'.frozen? ⟨w.heap.size + 2, 1, none⟩ = false ∧ Below w.heap.size w w')
        (first | (go_split_ands; refine ⟨?_, ?_, ?_, ?_, ?_, ?_, ?_, ?_, ?_⟩ <;> first | assumption | exact cell_later (by assumption) (by assumption) | exact at_later (by assumption) (by assumption) | exact at_drew (by assumption) | exact at_set (at_set (by assumption)) | exact frozen_later (by assumption) (by assumption) (by assumption) | exact Below.then (by assumption) (by assumption) (Below.size (by assumption)) | exact Below.drew (by assumption) | exact Below.setCell (Below.setCell (by assumption) (by show w.heap.size ≤ w.heap.size + 2; omega) _) (by show w.heap.size ≤ w.heap.size + 2; omega) _ | exact Below.drew (Below.setCell (Below.setCell (by assumption) (by show w.heap.size ≤ w.heap.size + 2; omega) _) (by show w.heap.size ≤ w.heap.size + 2; omega) _) | (simp [*]; done) | (simp [*, go_sem, World.cell?_setCell_far]; done)))
        (first
          | (go_at_call 78; refine (knowers_any _ _ _).mono ?_; rintro e w' ⟨rfl, hbx⟩)
          | (go_at_call 80; refine (trusters_any _ _ _).mono ?_; rintro e w' ⟨rfl, hbx⟩)
          | (go_at_call 62; refine (labelOf_any _ _ _).mono ?_; rintro e w' ⟨rfl, hbx⟩)
          | (go_at_call 113; refine (common_any _ _ _ (by omega) (by omega) (by omega) (by omega)).mono ?_; rintro e w' ⟨rfl, rfl⟩))
      all_goals go_wp2
      all_goals
        go_split_ands
        refine bodyPost_ret (v := .agg #[.int .i64 (andI ak bk), .int .i64 (andI at' bt)]) (by simp [results, Tryz.results108, go_sem, at_undrew, *]; first | done | (refine ⟨set2a ?_, set2b ?_⟩ <;> first | (show (w2.cell? ⟨w.heap.size + 2, 0, none⟩).isSome = true; simp [c5]; done) | (show (w2.cell? ⟨w.heap.size + 2, 1, none⟩).isSome = true; simp [c6]; done) | ((repeat (refine isSome_later (by assumption) ?_)) <;> first | (show (w2.drew.cell? ⟨w.heap.size + 2, 0, none⟩).isSome = true; simp [c5]; done) | (show (w2.drew.cell? ⟨w.heap.size + 2, 1, none⟩).isSome = true; simp [c6]; done)))) rfl ⟨by simp [ha, hb], by assumption⟩

end Go.Proofs.YtkgblkbgebpejaaGreatDoor
