/- The exact laws of LabelFlows, LabelBoth and LabelEither, walked. -/
import Derived.Test.YtbkgkpfekbnpiaaExB
import Derived.Deep.DeepCutAuto
namespace Go.Proofs.Ytbkgkpfekbnpiaa
open Go.RowKit
set_option linter.unusedSimpArgs false
set_option linter.unusedVariables false

attribute [local go_sem ↓] Go.wp_at_zero Go.wp_at_succ


set_option maxHeartbeats 1000000 in
theorem fnExactLabelFlows_walk (x0 y0 x1 y1 : Int) (w : World) (_ : I64 x0) (_ : I64 y0) (_ : I64 x1) (_ : I64 y1) :
    Calls Try.prog 12 #[.agg #[.int .i64 x0, .int .i64 y0], .agg #[.int .i64 x1, .int .i64 y1]] w fun e w' => e = .returned (.bool true) ∧ Below w.heap.size w w' := by
  go_enter Try.func12, Try.ntmps12
  go_wp2_with fail
  have c1 : ((w.alloc (.cells #[.int .i64 x0, .int .i64 y0] 38)).alloc (.cells #[.int .i64 x1, .int .i64 y1] 38)).cell? ⟨w.heap.size, 0, none⟩ = some (.int .i64 x0) := by simp [go_sem]
  have c2 : ((w.alloc (.cells #[.int .i64 x0, .int .i64 y0] 38)).alloc (.cells #[.int .i64 x1, .int .i64 y1] 38)).cell? ⟨w.heap.size, 1, none⟩ = some (.int .i64 y0) := by simp [go_sem]
  have c3 : ((w.alloc (.cells #[.int .i64 x0, .int .i64 y0] 38)).alloc (.cells #[.int .i64 x1, .int .i64 y1] 38)).cell? ⟨w.heap.size + 1, 0, none⟩ = some (.int .i64 x1) := by simp [go_sem]
  have c4 : ((w.alloc (.cells #[.int .i64 x0, .int .i64 y0] 38)).alloc (.cells #[.int .i64 x1, .int .i64 y1] 38)).cell? ⟨w.heap.size + 1, 1, none⟩ = some (.int .i64 y1) := by simp [go_sem]
  have B0 : Below w.heap.size w ((w.alloc (.cells #[.int .i64 x0, .int .i64 y0] 38)).alloc (.cells #[.int .i64 x1, .int .i64 y1] 38)) := by
    repeat' (first | exact Below.refl _ _ | assumption | (refine Below.drew ?_) | (refine Below.then ?_ (by assumption) ?_) | (refine Below.alloc ?_ ?_ _) | (refine Below.setCell ?_ ?_ _) | (simp; done) | (simp at *; omega) | omega)
  have n1 : w.heap.size + 1 < ((w.alloc (.cells #[.int .i64 x0, .int .i64 y0] 38)).alloc (.cells #[.int .i64 x1, .int .i64 y1] 38)).heap.size := by simp
  have hS := And.intro c1 (And.intro c2 (And.intro c3 (And.intro c4 (And.intro n1 B0))))
  clear c1 c2 c3 c4 B0
  go_region_held3 (fun w' => w'.cell? ⟨w.heap.size, 0, none⟩ = some (.int .i64 x0) ∧ w'.cell? ⟨w.heap.size, 1, none⟩ = some (.int .i64 y0) ∧ w'.cell? ⟨w.heap.size + 1, 0, none⟩ = some (.int .i64 x1) ∧ w'.cell? ⟨w.heap.size + 1, 1, none⟩ = some (.int .i64 y1) ∧ w.heap.size + 1 < w'.heap.size ∧ Below w.heap.size w w')
    (first | (first | exact S4_later hbx (by assumption) | exact S4_drew (by assumption) | exact S4_alloc (by assumption) | exact S4_realloc (by omega) (by assumption) | exact S4_set (by omega) (by assumption) | (refine ⟨?_, ?_, ?_, ?_, ?_, ?_⟩ <;> first | assumption | (simp [*]; done))))
    (first
      | (go_at_call 35; refine (toLabel_any _ _ _).mono ?_; rintro e w' ⟨rfl, hbx⟩; have hzx := hbx.size; (try simp at hzx))
      | (go_at_call 19; refine (sLabelFlows_any _ _ _ _ _).mono ?_; rintro e w' ⟨rfl, hbx⟩; have hzx := hbx.size))
  go_wp2_with fail
  go_region_held3 (fun w' => w'.cell? ⟨w.heap.size, 0, none⟩ = some (.int .i64 x0) ∧ w'.cell? ⟨w.heap.size, 1, none⟩ = some (.int .i64 y0) ∧ w'.cell? ⟨w.heap.size + 1, 0, none⟩ = some (.int .i64 x1) ∧ w'.cell? ⟨w.heap.size + 1, 1, none⟩ = some (.int .i64 y1) ∧ w.heap.size + 1 < w'.heap.size ∧ Below w.heap.size w w')
    (first | (first | exact S4_later hbx (by assumption) | exact S4_drew (by assumption) | exact S4_alloc (by assumption) | exact S4_realloc (by omega) (by assumption) | exact S4_set (by omega) (by assumption) | (refine ⟨?_, ?_, ?_, ?_, ?_, ?_⟩ <;> first | assumption | (simp [*]; done))))
    (first
      | (go_at_call 35; refine (toLabel_any _ _ _).mono ?_; rintro e w' ⟨rfl, hbx⟩; have hzx := hbx.size; (try simp at hzx))
      | (go_at_call 18; refine (labelFlows_any _ _ _ _ _).mono ?_; rintro e w' ⟨rfl, hbx⟩; have hzx := hbx.size))
  go_wp2
  go_ret
  go_split_ands
  exact ⟨rfl, by assumption⟩

end Go.Proofs.Ytbkgkpfekbnpiaa
