/- The exact laws of LabelFlows, LabelBoth and LabelEither, walked. -/
import Derived.Test.YtbkgkpfekbnpiaaExB
import Derived.Deep.DeepCutAuto
namespace Go.Proofs.Ytbkgkpfekbnpiaa
open Go.RowKit
set_option linter.unusedSimpArgs false
set_option linter.unusedVariables false

attribute [local go_sem ↓] Go.wp_at_zero Go.wp_at_succ


set_option maxHeartbeats 4000000 in
theorem fnExactLabelEither_walk (x0 y0 x1 y1 : Int) (w : World) (_ : I64 x0) (_ : I64 y0) (_ : I64 x1) (_ : I64 y1) :
    Calls Try.prog 14 #[.agg #[.int .i64 x0, .int .i64 y0], .agg #[.int .i64 x1, .int .i64 y1]] w fun e w' => e = .returned (.bool true) ∧ Below w.heap.size w w' := by
  go_enter Try.func14, Try.ntmps14
  go_upto_region 1 with fail
  have c1 : ((w.alloc (.cells #[.int .i64 x0, .int .i64 y0] 38)).alloc (.cells #[.int .i64 x1, .int .i64 y1] 38)).cell? ⟨w.heap.size, 0, none⟩ = some (.int .i64 x0) := by simp [go_sem]
  have c2 : ((w.alloc (.cells #[.int .i64 x0, .int .i64 y0] 38)).alloc (.cells #[.int .i64 x1, .int .i64 y1] 38)).cell? ⟨w.heap.size, 1, none⟩ = some (.int .i64 y0) := by simp [go_sem]
  have c3 : ((w.alloc (.cells #[.int .i64 x0, .int .i64 y0] 38)).alloc (.cells #[.int .i64 x1, .int .i64 y1] 38)).cell? ⟨w.heap.size + 1, 0, none⟩ = some (.int .i64 x1) := by simp [go_sem]
  have c4 : ((w.alloc (.cells #[.int .i64 x0, .int .i64 y0] 38)).alloc (.cells #[.int .i64 x1, .int .i64 y1] 38)).cell? ⟨w.heap.size + 1, 1, none⟩ = some (.int .i64 y1) := by simp [go_sem]
  have B0 : Below w.heap.size w ((w.alloc (.cells #[.int .i64 x0, .int .i64 y0] 38)).alloc (.cells #[.int .i64 x1, .int .i64 y1] 38)) := by
    repeat' (first | exact Below.refl _ _ | assumption | (refine Below.drew ?_) | (refine Below.then ?_ (by assumption) ?_) | (refine Below.alloc ?_ ?_ _) | (refine Below.setCell ?_ ?_ _) | (simp; done) | (simp at *; omega) | omega)
  have n1 : w.heap.size + 1 < ((w.alloc (.cells #[.int .i64 x0, .int .i64 y0] 38)).alloc (.cells #[.int .i64 x1, .int .i64 y1] 38)).heap.size := by simp
  have hS := And.intro c1 (And.intro c2 (And.intro c3 (And.intro c4 (And.intro n1 B0))))
  clear c1 c2 c3 c4 B0
  go_cut [5] (fun s w' => ∃ b, s = .pointer (some ⟨b, 0, none⟩) ∧ w'.cell? ⟨b, 0, none⟩ = some (.int .i64 (eiK x0 y0 x1 y1)) ∧ w'.cell? ⟨b, 1, none⟩ = some (.int .i64 (eiT x0 y0 x1 y1)) ∧ w'.cell? ⟨w.heap.size, 0, none⟩ = some (.int .i64 x0) ∧ w'.cell? ⟨w.heap.size, 1, none⟩ = some (.int .i64 y0) ∧ w'.cell? ⟨w.heap.size + 1, 0, none⟩ = some (.int .i64 x1) ∧ w'.cell? ⟨w.heap.size + 1, 1, none⟩ = some (.int .i64 y1) ∧ w.heap.size + 1 < w'.heap.size ∧ Below w.heap.size w w')
  case first =>
    go_region_held3 (fun w' => w'.cell? ⟨w.heap.size, 0, none⟩ = some (.int .i64 x0) ∧ w'.cell? ⟨w.heap.size, 1, none⟩ = some (.int .i64 y0) ∧ w'.cell? ⟨w.heap.size + 1, 0, none⟩ = some (.int .i64 x1) ∧ w'.cell? ⟨w.heap.size + 1, 1, none⟩ = some (.int .i64 y1) ∧ w.heap.size + 1 < w'.heap.size ∧ Below w.heap.size w w')
      (first | (first | exact S4_later hbx (by assumption) | exact S4_drew (by assumption) | exact S4_alloc (by assumption) | exact S4_realloc (by omega) (by assumption) | exact S4_set (by omega) (by assumption) | (refine ⟨?_, ?_, ?_, ?_, ?_, ?_⟩ <;> first | assumption | (simp [*]; done))))
      (first
        | (go_at_call 35; refine (toLabel_any _ _ _).mono ?_; rintro e w' ⟨rfl, hbx⟩; have hzx := hbx.size; (try simp at hzx); first | (have hq := newcells hbx; (try simp at hq); obtain ⟨q1, q2, q3, q4⟩ := hq) | (have hq := newcellsD hbx; (try simp at hq); obtain ⟨q1, q2, q3, q4⟩ := hq) | (have hq := carry4 hbx (by assumption) (by assumption) (by assumption) (by assumption); obtain ⟨q1, q2, q3, q4⟩ := hq) | skip)
        | (go_at_call 28; refine (sLabelEither_any _ _ _ _ _).mono ?_; rintro e w' ⟨rfl, hbx⟩; have hzx := hbx.size; (try simp at hzx); first | (have hq := newcells hbx; (try simp at hq); obtain ⟨q1, q2, q3, q4⟩ := hq) | (have hq := newcellsD hbx; (try simp at hq); obtain ⟨q1, q2, q3, q4⟩ := hq) | (have hq := carry4 hbx (by assumption) (by assumption) (by assumption) (by assumption); obtain ⟨q1, q2, q3, q4⟩ := hq) | skip))
    all_goals (go_wp2_with fail; go_meet)
    all_goals first
      | exact ⟨_, rfl, set_two0 q1 q2, set_two1 q1 q2, by assumption⟩
      | exact ⟨_, rfl, by simp [go_sem], by simp [go_sem], by assumption⟩
  case rest =>
    clear hS
    obtain ⟨b, rfl, d0, d1, hS⟩ := hcut
    have hbl : b < wc.heap.size := World.block_lt_of_cell? _ _ d0
    have n2 := hS.2.2.2.2.1
    have hT := And.intro d0 (And.intro d1 (And.intro hbl hS))
    clear d0 d1 hS
    go_upto_region 2 with fail
    go_cut [6] (fun s w' => ∃ c, s = .pointer (some ⟨c, 0, none⟩) ∧ w'.cell? ⟨c, 0, none⟩ = some (.int .i64 (eiK x0 y0 x1 y1)) ∧ w'.cell? ⟨c, 1, none⟩ = some (.int .i64 (eiT x0 y0 x1 y1)) ∧ w'.cell? ⟨b, 0, none⟩ = some (.int .i64 (eiK x0 y0 x1 y1)) ∧ w'.cell? ⟨b, 1, none⟩ = some (.int .i64 (eiT x0 y0 x1 y1)) ∧ Below w.heap.size w w')
    case first =>
      go_region_held3 (fun w' => w'.cell? ⟨b, 0, none⟩ = some (.int .i64 (eiK x0 y0 x1 y1)) ∧ w'.cell? ⟨b, 1, none⟩ = some (.int .i64 (eiT x0 y0 x1 y1)) ∧ b < w'.heap.size ∧ w'.cell? ⟨w.heap.size, 0, none⟩ = some (.int .i64 x0) ∧ w'.cell? ⟨w.heap.size, 1, none⟩ = some (.int .i64 y0) ∧ w'.cell? ⟨w.heap.size + 1, 0, none⟩ = some (.int .i64 x1) ∧ w'.cell? ⟨w.heap.size + 1, 1, none⟩ = some (.int .i64 y1) ∧ w.heap.size + 1 < w'.heap.size ∧ Below w.heap.size w w')
        (first | (first | exact S6_later hbx (by assumption) | exact S6_drew (by assumption) | exact S6_alloc (by assumption) | exact S6_realloc (by omega) (by omega) (by assumption) | exact S6_set (by omega) (by omega) (by assumption)))
        (first
          | (go_at_call 35; refine (toLabel_any _ _ _).mono ?_; rintro e w' ⟨rfl, hbx⟩; have hzx := hbx.size; (try simp at hzx); first | (have hq := newcells hbx; (try simp at hq); obtain ⟨q1, q2, q3, q4⟩ := hq) | (have hq := newcellsD hbx; (try simp at hq); obtain ⟨q1, q2, q3, q4⟩ := hq) | (have hq := carry4 hbx (by assumption) (by assumption) (by assumption) (by assumption); obtain ⟨q1, q2, q3, q4⟩ := hq) | skip)
          | (go_at_call 27; refine (labelEither_any _ _ _ _ _).mono ?_; rintro e w' ⟨rfl, hbx⟩; have hzx := hbx.size; (try simp at hzx); first | (have hq := newcells hbx; (try simp at hq); obtain ⟨q1, q2, q3, q4⟩ := hq) | (have hq := newcellsD hbx; (try simp at hq); obtain ⟨q1, q2, q3, q4⟩ := hq) | (have hq := carry4 hbx (by assumption) (by assumption) (by assumption) (by assumption); obtain ⟨q1, q2, q3, q4⟩ := hq) | skip))
      all_goals (go_wp2_with fail; go_meet)
      all_goals first
        | (have hU := ‹_ ∧ _ ∧ b < ((_ : World).setCell _ _).heap.size ∧ _›; exact ⟨_, rfl, set_two0 q1 q2, set_two1 q1 q2, hU.1, hU.2.1, hU.2.2.2.2.2.2.2.2⟩)
        | (have hU := ‹_ ∧ _ ∧ b < (World.alloc _ _).heap.size ∧ _›; exact ⟨_, rfl, by simp [go_sem], by simp [go_sem], hU.1, hU.2.1, hU.2.2.2.2.2.2.2.2⟩)
    case rest =>
      clear hT
      obtain ⟨c, rfl, e0, e1, f0, f1, hB⟩ := hcut
      go_wp2_with fail
      refine (eqLabel_any _ _ _ _ _).mono ?_; rintro e w' ⟨rfl, hbx⟩
      rw [eqB_self]
      go_wp2
      go_ret
      exact ⟨rfl, below_then2 hbx hB⟩

end Go.Proofs.Ytbkgkpfekbnpiaa
