/- What the model says of values and steps: whether a value is in form, and a step. -/
import Derived.Test.YtpcmhkcahajdgaaSpk
namespace Go.Proofs.Ytpcmhkcahajdgaa
open Go.RowKit
set_option linter.unusedSimpArgs false
set_option linter.unusedVariables false

set_option maxHeartbeats 1000000 in
theorem l2Val_any (la : Option Addr) (n lc : Nat) (ss : Value) (vk va vb : Int) (w : World) (hn : n ≤ maxLen) :
    Calls Try.prog 131 #[.agg #[.slice la n lc, ss], .agg #[.int .i64 vk, .int .i64 va, .int .i64 vb]] w fun e w' => e = .returned (.bool (valB n vk va vb)) ∧ Below w.heap.size w w' := by
  have hN : Hid (n ≤ maxLen) := hn
  unfold valB
  by_cases h1 : vk = 1
  · subst h1
    rw [if_pos rfl, vIn_le]
    cases ha : (decide (0 ≤ va) && decide (va ≤ 10 - 1))
    all_goals
      clear hn
      go_enter Try.func131, Try.ntmps131
      go_wp2_with (first | (go_at_call 72; refine (l6In_any _ _ _ _).mono ?_; rintro e w2 ⟨rfl, rfl⟩; try rw [show (9 : Int) = 10 - 1 from rfl, ha]))
      go_ret
      refine ⟨rfl, ?_⟩
      repeat' (first | exact Below.refl _ _ | assumption | (refine Below.drew ?_) | (refine Below.then ?_ (by assumption) ?_) | (refine Below.alloc ?_ ?_ _) | (refine Below.setCell ?_ ?_ _) | (simp; done) | (simp at *; omega) | omega)
  rw [if_neg h1]
  by_cases h2 : vk = 2
  · subst h2
    rw [if_pos rfl]
    cases ha : vIn n va
    all_goals
      clear hn
      go_enter Try.func131, Try.ntmps131
      go_wp2_with (first | (go_at_call 130; refine (l2Var_any _ _ _ _ _ _ hN.out).mono ?_; rintro e w2 ⟨rfl, hb2⟩; rw [ha]; obtain ⟨hc2, hf2⟩ := bcell hb2; have hs2 := hb2.size))
      go_ret
      refine ⟨rfl, ?_⟩
      clear hc2 hf2
      repeat' (first | exact Below.refl _ _ | assumption | (refine Below.drew ?_) | (refine Below.then ?_ (by assumption) ?_) | (refine Below.alloc ?_ ?_ _) | (refine Below.setCell ?_ ?_ _) | (simp; done) | (simp at *; omega) | omega)
  rw [if_neg h2]
  by_cases h34 : vk = 3 ∨ vk = 4
  · rw [if_pos h34]
    rcases h34 with rfl | rfl
    all_goals
      cases ha : vIn n va
      all_goals
        clear hn
        go_enter Try.func131, Try.ntmps131
        go_wp2_with fail
        go_at_call 130; refine (l2Var_any _ _ _ _ _ _ hN.out).mono ?_; rintro e w2 ⟨rfl, hb2⟩; rw [ha]; obtain ⟨hc2, hf2⟩ := bcell hb2; have hs2 := hb2.size
        go_wp2_with (first | (go_at_call 130; refine (l2Var_any _ _ _ _ _ _ hN.out).mono ?_; rintro e w3 ⟨rfl, hb3⟩))
        go_ret
        refine ⟨rfl, ?_⟩
        clear hc2 hf2
        repeat' (first | exact Below.refl _ _ | assumption | (refine Below.drew ?_) | (refine Below.then ?_ (by assumption) ?_) | (refine Below.alloc ?_ ?_ _) | (refine Below.setCell ?_ ?_ _) | (simp; done) | (simp at *; omega) | omega)
  · rw [if_neg h34]
    have h3 : vk ≠ 3 := fun h => h34 (.inl h)
    have h4 : vk ≠ 4 := fun h => h34 (.inr h)
    clear h34 hn
    go_enter Try.func131, Try.ntmps131
    go_wp2
    go_ret
    refine ⟨rfl, ?_⟩
    repeat' (first | exact Below.refl _ _ | assumption | (refine Below.drew ?_) | (refine Below.then ?_ (by assumption) ?_) | (refine Below.alloc ?_ ?_ _) | (refine Below.setCell ?_ ?_ _) | (simp; done) | (simp at *; omega) | omega)

end Go.Proofs.Ytpcmhkcahajdgaa
