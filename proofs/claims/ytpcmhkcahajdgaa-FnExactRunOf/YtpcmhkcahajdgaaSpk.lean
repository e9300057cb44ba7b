/- What the model says of values and steps: whether they are in form. -/
import Derived.Test.YtpcmhkcahajdgaaTre
namespace Go.Proofs.Ytpcmhkcahajdgaa
open Go.RowKit
set_option linter.unusedSimpArgs false
set_option linter.unusedVariables false

theorem l6In_any (x lo hi : Int) (w : World) :
    Calls Try.prog 72 #[.int .i64 x, .int .i64 lo, .int .i64 hi] w fun e w' => e = .returned (.bool (decide (lo ≤ x) && decide (x ≤ hi))) ∧ w' = w := by
  by_cases h : lo ≤ x
  · go_enter Try.func72, Try.ntmps72
    go_wp2
    go_ret
    exact ⟨by simp [h], rfl⟩
  · have hd : decide (lo ≤ x) = false := by simpa using h
    go_enter Try.func72, Try.ntmps72
    go_wp2
    go_ret
    exact ⟨by simp [hd], rfl⟩

theorem vIn_le (n v : Int) : vIn n v = (decide (0 ≤ v) && decide (v ≤ n - 1)) := by
  unfold vIn; congr 1; exact decide_eq_decide.2 (by omega)

theorem l2Var_any (la : Option Addr) (n lc : Nat) (ss : Value) (v : Int) (w : World) (hn : n ≤ maxLen) :
    Calls Try.prog 130 #[.agg #[.slice la n lc, ss], .int .i64 v] w fun e w' => e = .returned (.bool (vIn n v)) ∧ Below w.heap.size w w' := by
  have hm : (n : Int) ≤ 9223372036854775807 := by unfold maxLen at hn; omega
  have hw := w64 ((n : Int) - 1) (by omega)
  rw [vIn_le]
  go_enter Try.func130, Try.ntmps130
  go_wp2_with (first | (go_at_call 72; refine (l6In_any _ _ _ _).mono ?_; rintro e w2 ⟨rfl, rfl⟩))
  go_ret
  refine ⟨rfl, ?_⟩
  repeat' (first | exact Below.refl _ _ | assumption | (refine Below.drew ?_) | (refine Below.then ?_ (by assumption) ?_) | (refine Below.alloc ?_ ?_ _) | (refine Below.setCell ?_ ?_ _) | (simp; done) | (simp at *; omega) | omega)

end Go.Proofs.Ytpcmhkcahajdgaa
