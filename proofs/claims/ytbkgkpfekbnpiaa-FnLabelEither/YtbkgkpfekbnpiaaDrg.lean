/- Drawn pairs of labels, and single ones. -/
import Derived.Test.YtbkgkpfekbnpiaaDrf
namespace Go.Proofs.Ytbkgkpfekbnpiaa
open Go.RowKit
set_option linter.unusedSimpArgs false
set_option linter.unusedVariables false
attribute [local go_sem ↓] Go.wp_at_zero Go.wp_at_succ


theorem drawBoth_any (w : World) (a0 : Option Addr) (len0 cap0 : Nat) (zs : List Int) (h : IsRow .u8 w a0 len0 cap0 zs) :
    Calls Try.prog 22 #[.slice a0 len0 cap0] w fun e w' => ∃ ak at' bk bt, e = .returned (.tuple #[.agg #[.int .i64 ak, .int .i64 at'], .agg #[.int .i64 bk, .int .i64 bt]]) ∧ (Sm ak ∧ Sm at' ∧ Sm bk ∧ Sm bt) ∧ Below w.heap.size w w' := by
  go_enter Try.func22, Try.ntmps22
  go_wp2_with fail
  refine (drawFlows_any _ a0 len0 cap0 zs (h.below (((Below.refl _ _).alloc (Nat.le_refl _) _).alloc (by simp) _))).mono ?_
  rintro e w1 ⟨ak, at', bk, bt, rfl, hsm, hb⟩
  obtain ⟨z0, z1, g0, g1⟩ := ((Pair.new w 0 0 24).alloc (.cells #[.int .i64 0, .int .i64 0] 24)).below hb
  have PB := (Pair.new (w.alloc (.cells #[.int .i64 0, .int .i64 0] 24)) 0 0 24).below hb
  simp at PB
  obtain ⟨v0, v1, f0, f1⟩ := PB
  have HB : Hid (Below w.heap.size w w1) := (((Below.refl _ _).alloc (Nat.le_refl _) _).alloc (by simp) _).trans (hb.mono (by simp; omega))
  clear hb
  go_wp2
  refine bodyPost_ret (v := .tuple #[.agg #[.int .i64 ak, .int .i64 at'], .agg #[.int .i64 bk, .int .i64 bt]]) (by simp [results, Try.results22, go_sem, z0, z1, v0, v1]) rfl ⟨ak, at', bk, bt, rfl, hsm, ?_⟩
  have HB' := HB.out
  clear HB z0 z1 v0 v1 f0 f1 g0 g1
  repeat' (first | exact Below.refl _ _ | assumption | (refine Below.drew ?_) | (refine Below.then ?_ (by assumption) ?_) | (refine Below.alloc ?_ ?_ _) | (refine Below.setCell ?_ ?_ _) | (simp; done) | (simp at *; omega) | omega)

theorem drawEither_any (w : World) (a0 : Option Addr) (len0 cap0 : Nat) (zs : List Int) (h : IsRow .u8 w a0 len0 cap0 zs) :
    Calls Try.prog 26 #[.slice a0 len0 cap0] w fun e w' => ∃ ak at' bk bt, e = .returned (.tuple #[.agg #[.int .i64 ak, .int .i64 at'], .agg #[.int .i64 bk, .int .i64 bt]]) ∧ (Sm ak ∧ Sm at' ∧ Sm bk ∧ Sm bt) ∧ Below w.heap.size w w' := by
  go_enter Try.func26, Try.ntmps26
  go_wp2_with fail
  refine (drawFlows_any _ a0 len0 cap0 zs (h.below (((Below.refl _ _).alloc (Nat.le_refl _) _).alloc (by simp) _))).mono ?_
  rintro e w1 ⟨ak, at', bk, bt, rfl, hsm, hb⟩
  obtain ⟨z0, z1, g0, g1⟩ := ((Pair.new w 0 0 24).alloc (.cells #[.int .i64 0, .int .i64 0] 24)).below hb
  have PB := (Pair.new (w.alloc (.cells #[.int .i64 0, .int .i64 0] 24)) 0 0 24).below hb
  simp at PB
  obtain ⟨v0, v1, f0, f1⟩ := PB
  have HB : Hid (Below w.heap.size w w1) := (((Below.refl _ _).alloc (Nat.le_refl _) _).alloc (by simp) _).trans (hb.mono (by simp; omega))
  clear hb
  go_wp2
  refine bodyPost_ret (v := .tuple #[.agg #[.int .i64 ak, .int .i64 at'], .agg #[.int .i64 bk, .int .i64 bt]]) (by simp [results, Try.results26, go_sem, z0, z1, v0, v1]) rfl ⟨ak, at', bk, bt, rfl, hsm, ?_⟩
  have HB' := HB.out
  clear HB z0 z1 v0 v1 f0 f1 g0 g1
  repeat' (first | exact Below.refl _ _ | assumption | (refine Below.drew ?_) | (refine Below.then ?_ (by assumption) ?_) | (refine Below.alloc ?_ ?_ _) | (refine Below.setCell ?_ ?_ _) | (simp; done) | (simp at *; omega) | omega)

end Go.Proofs.Ytbkgkpfekbnpiaa
