/- Contracts of LabelFlows, LabelBoth and LabelEither, of the program and of the model. -/
import Derived.Test.YtpcmhkcahajdgaaBit
import Derived.Deep.RegionHeld3
import Derived.Deep.DrawnRows
namespace Go.Proofs.Ytpcmhkcahajdgaa
open Go.RowKit
set_option linter.unusedSimpArgs false
set_option linter.unusedVariables false
attribute [local go_sem] World.cell?_alloc_some
attribute [local go_sem ↓] Go.wp_at_zero Go.wp_at_succ

def flB (ak at' bk bt : Int) : Bool := okB ak at' && okB bk bt && covB ak bk && covB at' bt

theorem okB_iff {k t : Int} : okB k t = true ↔ (0 ≤ k ∧ k ≤ 7) ∧ (0 ≤ t ∧ t ≤ 7) := by simp [okB, inB_iff]

theorem sLabelFlows_any (ak at' bk bt : Int) (w : World) :
    Calls Try.prog 137 #[.agg #[.int .i64 ak, .int .i64 at'], .agg #[.int .i64 bk, .int .i64 bt]] w fun e w' => e = .returned (.bool (flB ak at' bk bt)) ∧ Below w.heap.size w w' := by
  unfold flB
  cases ha : okB ak at'
  · go_enter Try.func137, Try.ntmps137
    go_wp2_with fail
    refine (sLabelOk_any _ _ _).mono ?_; rintro e w1 ⟨rfl, hb1⟩
    go_wp2
    go_ret
    refine ⟨by simp [ha], ?_⟩
    repeat' (first | exact Below.refl _ _ | assumption | (refine Below.drew ?_) | (refine Below.then ?_ (by assumption) ?_) | (refine Below.alloc ?_ ?_ _) | (refine Below.setCell ?_ ?_ _) | (simp; done) | (simp at *; omega) | omega)
  · cases hb : okB bk bt
    · go_enter Try.func137, Try.ntmps137
      go_wp2_with fail
      refine (sLabelOk_any _ _ _).mono ?_; rintro e w1 ⟨rfl, hb1⟩; obtain ⟨hc1, hf1⟩ := bcell hb1; have hz1 : w.heap.size + 1 < w1.heap.size := by have := hb1.size; simp at this; omega
      go_wp2_with fail
      refine (sLabelOk_any _ _ _).mono ?_; rintro e w2 ⟨rfl, hb2⟩
      go_wp2
      go_ret
      refine ⟨by simp [ha, hb], ?_⟩
      clear hc1 hf1
      repeat' (first | exact Below.refl _ _ | assumption | (refine Below.drew ?_) | (refine Below.then ?_ (by assumption) ?_) | (refine Below.alloc ?_ ?_ _) | (refine Below.setCell ?_ ?_ _) | (simp; done) | (simp at *; omega) | omega)
    · have ia := okB_iff.1 ha
      have ib := okB_iff.1 hb
      cases hc : covB ak bk
      all_goals
        go_enter Try.func137, Try.ntmps137
        go_wp2_with fail
        refine (sLabelOk_any _ _ _).mono ?_; rintro e w1 ⟨rfl, hb1⟩; obtain ⟨hc1, hf1⟩ := bcell hb1; have hz1 : w.heap.size + 1 < w1.heap.size := by have := hb1.size; simp at this; omega
        have hz1' : w.heap.size < w1.heap.size := by omega
        go_wp2_with fail
        refine (sLabelOk_any _ _ _).mono ?_; rintro e w2 ⟨rfl, hb2⟩; obtain ⟨hc2, hf2⟩ := bcell hb2
        go_wp2_with (go_at_call 148; refine (l1Within_any _ _ _ (by omega) (by omega) (by omega) (by omega)).mono ?_; rintro e w3 ⟨rfl, rfl⟩)
        go_ret
        refine ⟨by simp [ha, hb, hc], ?_⟩
        clear hc1 hf1 hc2 hf2
        repeat' (first | exact Below.refl _ _ | assumption | (refine Below.drew ?_) | (refine Below.then ?_ (by assumption) ?_) | (refine Below.alloc ?_ ?_ _) | (refine Below.setCell ?_ ?_ _) | (simp; done) | (simp at *; omega) | omega)

theorem knowers_w (k t : Int) (w : World) :
    Calls Try.prog 83 #[.agg #[.int .i64 k, .int .i64 t]] w fun e w' => e = .returned (.int .i64 k) ∧ w.alloc (.cells #[.int .i64 k, .int .i64 t] 59) = w' := by
  go_enter Try.func83, Try.ntmps83
  go_wp2
  go_ret
  exact ⟨rfl, rfl⟩

theorem trusters_w (k t : Int) (w : World) :
    Calls Try.prog 85 #[.agg #[.int .i64 k, .int .i64 t]] w fun e w' => e = .returned (.int .i64 t) ∧ w.alloc (.cells #[.int .i64 k, .int .i64 t] 59) = w' := by
  go_enter Try.func85, Try.ntmps85
  go_wp2
  go_ret
  exact ⟨rfl, rfl⟩

end Go.Proofs.Ytpcmhkcahajdgaa
