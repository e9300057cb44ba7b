/- Whether there is all that a step names: what the program says. -/
import Derived.Test.YtpcmhkcahajdgaaPcv
namespace Go.Proofs.Ytpcmhkcahajdgaa
open Go.RowKit
set_option linter.unusedSimpArgs false
set_option linter.unusedVariables false

theorem isBelow_any (x n : Int) (w : World) :
    Calls Try.prog 75 #[.int .i64 x, .int .i64 n] w fun e w' => e = .returned (.bool (vIn n x)) ∧ w' = w := by
  unfold vIn
  by_cases h : 0 ≤ x
  · go_enter Try.func75, Try.ntmps75
    go_wp2
    go_ret
    exact ⟨by simp [h], rfl⟩
  · have hd : decide (0 ≤ x) = false := by simpa using h
    go_enter Try.func75, Try.ntmps75
    go_wp2
    go_ret
    exact ⟨by simp [hd], rfl⟩

theorem numFits_any (a n : Int) (w : World) :
    Calls Try.prog 168 #[.agg #[.int .i64 a], .int .i64 n] w fun e w' => e = .returned (.bool (vIn 10 a)) ∧ Below w.heap.size w w' := by
  go_enter Try.func168, Try.ntmps168
  go_wp2_with (first | (go_at_call 75; refine (isBelow_any _ _ _).mono ?_; rintro e w2 ⟨rfl, hw2⟩; subst w2))
  go_ret
  refine ⟨rfl, ?_⟩
  repeat' (first | exact Below.refl _ _ | assumption | (refine Below.drew ?_) | (refine Below.then ?_ (by assumption) ?_) | (refine Below.alloc ?_ ?_ _) | (refine Below.setCell ?_ ?_ _) | (simp; done) | (simp at *; omega) | omega)
theorem varFits_any (a n : Int) (w : World) :
    Calls Try.prog 169 #[.agg #[.int .i64 a], .int .i64 n] w fun e w' => e = .returned (.bool (vIn n a)) ∧ Below w.heap.size w w' := by
  go_enter Try.func169, Try.ntmps169
  go_wp2_with (first | (go_at_call 75; refine (isBelow_any _ _ _).mono ?_; rintro e w2 ⟨rfl, hw2⟩; subst w2))
  go_ret
  refine ⟨rfl, ?_⟩
  repeat' (first | exact Below.refl _ _ | assumption | (refine Below.drew ?_) | (refine Below.then ?_ (by assumption) ?_) | (refine Below.alloc ?_ ?_ _) | (refine Below.setCell ?_ ?_ _) | (simp; done) | (simp at *; omega) | omega)
theorem sumFits_any (a b n : Int) (w : World) :
    Calls Try.prog 170 #[.agg #[.int .i64 a, .int .i64 b], .int .i64 n] w fun e w' => e = .returned (.bool (vIn n a && vIn n b)) ∧ Below w.heap.size w w' := by
  cases ha : vIn n a
  all_goals
    go_enter Try.func170, Try.ntmps170
    go_wp2_with fail
    go_at_call 75; refine (isBelow_any _ _ _).mono ?_; rintro e w2 ⟨rfl, hw2⟩; subst w2; rw [ha]
    go_wp2_with (first | (go_at_call 75; refine (isBelow_any _ _ _).mono ?_; rintro e w2 ⟨rfl, hw2⟩; subst w2))
    go_ret
    refine ⟨by simp, ?_⟩
    repeat' (first | exact Below.refl _ _ | assumption | (refine Below.drew ?_) | (refine Below.then ?_ (by assumption) ?_) | (refine Below.alloc ?_ ?_ _) | (refine Below.setCell ?_ ?_ _) | (simp; done) | (simp at *; omega) | omega)
theorem sameFits_any (a b n : Int) (w : World) :
    Calls Try.prog 171 #[.agg #[.int .i64 a, .int .i64 b], .int .i64 n] w fun e w' => e = .returned (.bool (vIn n a && vIn n b)) ∧ Below w.heap.size w w' := by
  cases ha : vIn n a
  all_goals
    go_enter Try.func171, Try.ntmps171
    go_wp2_with fail
    go_at_call 75; refine (isBelow_any _ _ _).mono ?_; rintro e w2 ⟨rfl, hw2⟩; subst w2; rw [ha]
    go_wp2_with (first | (go_at_call 75; refine (isBelow_any _ _ _).mono ?_; rintro e w2 ⟨rfl, hw2⟩; subst w2))
    go_ret
    refine ⟨by simp, ?_⟩
    repeat' (first | exact Below.refl _ _ | assumption | (refine Below.drew ?_) | (refine Below.then ?_ (by assumption) ?_) | (refine Below.alloc ?_ ?_ _) | (refine Below.setCell ?_ ?_ _) | (simp; done) | (simp at *; omega) | omega)
theorem ifFits_any (a n : Int) (t e : Value) (ta ea : Option Addr) (lt tc le ec : Nat) (w : World) :
    Calls Try.prog 166 #[.agg #[.int .i64 a, .slice ta lt tc, .slice ea le ec], .int .i64 n] w fun e w' => e = .returned (.bool (vIn n a)) ∧ Below w.heap.size w w' := by
  go_enter Try.func166, Try.ntmps166
  go_wp2_with (first | (go_at_call 75; refine (isBelow_any _ _ _).mono ?_; rintro e w2 ⟨rfl, hw2⟩; subst w2))
  go_ret
  refine ⟨rfl, ?_⟩
  repeat' (first | exact Below.refl _ _ | assumption | (refine Below.drew ?_) | (refine Below.then ?_ (by assumption) ?_) | (refine Below.alloc ?_ ?_ _) | (refine Below.setCell ?_ ?_ _) | (simp; done) | (simp at *; omega) | omega)
theorem tellFits_any (a b n : Int) (w : World) :
    Calls Try.prog 167 #[.agg #[.int .i64 a, .int .i64 b], .int .i64 n] w fun e w' => e = .returned (.bool (vIn n a && vIn 3 b)) ∧ Below w.heap.size w w' := by
  cases ha : vIn n a
  all_goals
    go_enter Try.func167, Try.ntmps167
    go_wp2_with fail
    go_at_call 75; refine (isBelow_any _ _ _).mono ?_; rintro e w2 ⟨rfl, hw2⟩; subst w2; rw [ha]
    go_wp2_with (first | (go_at_call 75; refine (isBelow_any _ _ _).mono ?_; rintro e w2 ⟨rfl, hw2⟩; subst w2))
    go_ret
    refine ⟨by simp, ?_⟩
    repeat' (first | exact Below.refl _ _ | assumption | (refine Below.drew ?_) | (refine Below.then ?_ (by assumption) ?_) | (refine Below.alloc ?_ ?_ _) | (refine Below.setCell ?_ ?_ _) | (simp; done) | (simp at *; omega) | omega)

theorem use_method {n T g : Nat} {v : Value} {nm : String} {w : World} {X : Result (FuncId × Value)} (hX : Sem.run Try.prog (method n T v nm) w = X) (h : Sem.run Try.prog (method n T v nm) w = .ok (g, v) w) : X = .ok (g, v) w := hX.symm.trans h
def valFit (n vk va vb : Int) : Bool := if vk = 1 then vIn 10 va else if vk = 2 then vIn n va else vIn n va && vIn n vb
set_option maxRecDepth 20000 in
set_option maxHeartbeats 2000000 in
theorem setFits_any (a n vk va vb : Int) (w : World) (hf : valForm vk vb = true) :
    Calls Try.prog 165 #[.agg #[.int .i64 a, valPc vk va vb], .int .i64 n] w fun e w' => e = .returned (.bool (vIn n a && valFit n vk va vb)) ∧ Below w.heap.size w w' := by
  have hk : vk = 1 ∨ vk = 2 ∨ vk = 3 ∨ vk = 4 := by
    unfold valForm at hf
    by_cases h : vk = 1 ∨ vk = 2
    · omega
    · rw [if_neg h] at hf; simp at hf; omega
  clear hf
  cases ha : vIn n a
  · rcases hk with rfl | rfl | rfl | rfl
    all_goals
      simp only [valPc, valFit, Int.reduceEq, if_true, if_false, reduceIte]
      go_enter Try.func165, Try.ntmps165
      go_wp2_with fail
      go_at_call 75; refine (isBelow_any _ _ _).mono ?_; rintro e w2 ⟨rfl, hw2⟩; subst w2; rw [ha]
      go_wp2
      go_ret
      refine ⟨by simp, ?_⟩
      repeat' (first | exact Below.refl _ _ | assumption | (refine Below.drew ?_) | (refine Below.then ?_ (by assumption) ?_) | (refine Below.alloc ?_ ?_ _) | (refine Below.setCell ?_ ?_ _) | (simp; done) | (simp at *; omega) | omega)
  · rcases hk with rfl | rfl | rfl | rfl
    · simp only [valPc, valFit, Int.reduceEq, if_true, if_false, reduceIte]
      go_enter Try.func165, Try.ntmps165
      go_wp2_with fail
      go_at_call 75; refine (isBelow_any _ _ _).mono ?_; rintro e w2 ⟨rfl, hw2⟩; subst w2; rw [ha]
      go_wp2_with fail
      generalize hX : Sem.run Try.prog (method _ _ _ _) _ = X
      have hx := use_method (g := 168) hX (by kernel_rfl)
      clear hX
      subst hx
      go_wp2_with fail
      go_at_call 168; refine (numFits_any _ _ _).mono ?_; rintro e w3 ⟨rfl, hb3⟩
      go_wp2
      go_ret
      refine ⟨by simp, ?_⟩
      repeat' (first | exact Below.refl _ _ | assumption | (refine Below.drew ?_) | (refine Below.then ?_ (by assumption) ?_) | (refine Below.alloc ?_ ?_ _) | (refine Below.setCell ?_ ?_ _) | (simp; done) | (simp at *; omega) | omega)
    · simp only [valPc, valFit, Int.reduceEq, if_true, if_false, reduceIte]
      go_enter Try.func165, Try.ntmps165
      go_wp2_with fail
      go_at_call 75; refine (isBelow_any _ _ _).mono ?_; rintro e w2 ⟨rfl, hw2⟩; subst w2; rw [ha]
      go_wp2_with fail
      generalize hX : Sem.run Try.prog (method _ _ _ _) _ = X
      have hx := use_method (g := 169) hX (by kernel_rfl)
      clear hX
      subst hx
      go_wp2_with fail
      go_at_call 169; refine (varFits_any _ _ _).mono ?_; rintro e w3 ⟨rfl, hb3⟩
      go_wp2
      go_ret
      refine ⟨by simp, ?_⟩
      repeat' (first | exact Below.refl _ _ | assumption | (refine Below.drew ?_) | (refine Below.then ?_ (by assumption) ?_) | (refine Below.alloc ?_ ?_ _) | (refine Below.setCell ?_ ?_ _) | (simp; done) | (simp at *; omega) | omega)
    · simp only [valPc, valFit, Int.reduceEq, if_true, if_false, reduceIte]
      go_enter Try.func165, Try.ntmps165
      go_wp2_with fail
      go_at_call 75; refine (isBelow_any _ _ _).mono ?_; rintro e w2 ⟨rfl, hw2⟩; subst w2; rw [ha]
      go_wp2_with fail
      generalize hX : Sem.run Try.prog (method _ _ _ _) _ = X
      have hx := use_method (g := 170) hX (by kernel_rfl)
      clear hX
      subst hx
      go_wp2_with fail
      go_at_call 170; refine (sumFits_any _ _ _ _).mono ?_; rintro e w3 ⟨rfl, hb3⟩
      go_wp2
      go_ret
      refine ⟨by simp, ?_⟩
      repeat' (first | exact Below.refl _ _ | assumption | (refine Below.drew ?_) | (refine Below.then ?_ (by assumption) ?_) | (refine Below.alloc ?_ ?_ _) | (refine Below.setCell ?_ ?_ _) | (simp; done) | (simp at *; omega) | omega)
    · simp only [valPc, valFit, Int.reduceEq, if_true, if_false, reduceIte]
      go_enter Try.func165, Try.ntmps165
      go_wp2_with fail
      go_at_call 75; refine (isBelow_any _ _ _).mono ?_; rintro e w2 ⟨rfl, hw2⟩; subst w2; rw [ha]
      go_wp2_with fail
      generalize hX : Sem.run Try.prog (method _ _ _ _) _ = X
      have hx := use_method (g := 171) hX (by kernel_rfl)
      clear hX
      subst hx
      go_wp2_with fail
      go_at_call 171; refine (sameFits_any _ _ _ _).mono ?_; rintro e w3 ⟨rfl, hb3⟩
      go_wp2
      go_ret
      refine ⟨by simp, ?_⟩
      repeat' (first | exact Below.refl _ _ | assumption | (refine Below.drew ?_) | (refine Below.then ?_ (by assumption) ?_) | (refine Below.alloc ?_ ?_ _) | (refine Below.setCell ?_ ?_ _) | (simp; done) | (simp at *; omega) | omega)

end Go.Proofs.Ytpcmhkcahajdgaa
