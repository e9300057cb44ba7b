/- What the model says of values and steps: whether they are in form. -/
import Derived.Test.YthcgdhlemieboaaGreatTkTre
import Derived.Deep.RegionHeld3
import Derived.Deep.DrawnRows
namespace Go.Proofs.YthcgdhlemieboaaGreat
open Go.RowKit
set_option linter.unusedSimpArgs false
set_option linter.unusedVariables false

theorem l6In_any (x lo hi : Int) (w : World) :
    Calls Tryz.prog 14 #[.int .i64 x, .int .i64 lo, .int .i64 hi] w fun e w' => e = .returned (.bool (decide (lo ≤ x) && decide (x ≤ hi))) ∧ w' = w := by
  by_cases h : lo ≤ x
  · go_enter Tryz.func14, Tryz.ntmps14
    go_wp2
    go_ret
    exact ⟨by simp [h], rfl⟩
  · have hd : decide (lo ≤ x) = false := by simpa using h
    go_enter Tryz.func14, Tryz.ntmps14
    go_wp2
    go_ret
    exact ⟨by simp [hd], rfl⟩

theorem vIn_le (n v : Int) : vIn n v = (decide (0 ≤ v) && decide (v ≤ n - 1)) := by
  unfold vIn; congr 1; exact decide_eq_decide.2 (by omega)

theorem l2Var_any (la : Option Addr) (n lc : Nat) (ss : Value) (v : Int) (w : World) (hn : n ≤ maxLen) :
    Calls Tryz.prog 78 #[.agg #[.slice la n lc, ss], .int .i64 v] w fun e w' => e = .returned (.bool (vIn n v)) ∧ Below w.heap.size w w' := by
  have hm : (n : Int) ≤ 9223372036854775807 := by unfold maxLen at hn; omega
  have hw := w64 ((n : Int) - 1) (by omega)
  rw [vIn_le]
  go_enter Tryz.func78, Tryz.ntmps78
  go_wp2_with (first | (go_at_call 14; refine (l6In_any _ _ _ _).mono ?_; rintro e w2 ⟨rfl, rfl⟩))
  go_ret
  refine ⟨rfl, ?_⟩
  repeat' (first | exact Below.refl _ _ | assumption | (refine Below.drew ?_) | (refine Below.then ?_ (by assumption) ?_) | (refine Below.alloc ?_ ?_ _) | (refine Below.setCell ?_ ?_ _) | (simp; done) | (simp at *; omega) | omega)

end Go.Proofs.YthcgdhlemieboaaGreat

namespace Go.Proofs.YthcgdhlemieboaaGreat
open Go.RowKit
set_option linter.unusedSimpArgs false
set_option linter.unusedVariables false

set_option maxHeartbeats 1000000 in
theorem l2Val_any (la : Option Addr) (n lc : Nat) (ss : Value) (vk va vb : Int) (w : World) (hn : n ≤ maxLen) :
    Calls Tryz.prog 79 #[.agg #[.slice la n lc, ss], .agg #[.int .i64 vk, .int .i64 va, .int .i64 vb]] w fun e w' => e = .returned (.bool (valB n vk va vb)) ∧ Below w.heap.size w w' := by
  have hN : Hid (n ≤ maxLen) := hn
  unfold valB
  by_cases h1 : vk = 1
  · subst h1
    rw [if_pos rfl, vIn_le]
    cases ha : (decide (0 ≤ va) && decide (va ≤ 10 - 1))
    all_goals
      clear hn
      go_enter Tryz.func79, Tryz.ntmps79
      go_wp2_with (first | (go_at_call 14; refine (l6In_any _ _ _ _).mono ?_; rintro e w2 ⟨rfl, rfl⟩; try rw [show (9 : Int) = 10 - 1 from rfl, ha]))
      go_ret
      refine ⟨rfl, ?_⟩
      repeat' (first | exact Below.refl _ _ | assumption | (refine Below.drew ?_) | (refine Below.then ?_ (by assumption) ?_) | (refine Below.alloc ?_ ?_ _) | (refine Below.setCell ?_ ?_ _) | (simp; done) | (simp at *; omega) | omega)
  rw [if_neg h1]
  by_cases h2 : vk = 2
  · subst h2
    rw [if_pos rfl]
    cases ha : vIn n va
    all_goals
      clear hn
      go_enter Tryz.func79, Tryz.ntmps79
      go_wp2_with (first | (go_at_call 78; refine (l2Var_any _ _ _ _ _ _ hN.out).mono ?_; rintro e w2 ⟨rfl, hb2⟩; rw [ha]; obtain ⟨hc2, hf2⟩ := bcell hb2; have hs2 := hb2.size))
      go_ret
      refine ⟨rfl, ?_⟩
      clear hc2 hf2
      repeat' (first | exact Below.refl _ _ | assumption | (refine Below.drew ?_) | (refine Below.then ?_ (by assumption) ?_) | (refine Below.alloc ?_ ?_ _) | (refine Below.setCell ?_ ?_ _) | (simp; done) | (simp at *; omega) | omega)
  rw [if_neg h2]
  by_cases h34 : vk = 3 ∨ vk = 4
  · rw [if_pos h34]
    rcases h34 with rfl | rfl
    all_goals
      cases ha : vIn n va
      all_goals
        clear hn
        go_enter Tryz.func79, Tryz.ntmps79
        go_wp2_with fail
        go_at_call 78; refine (l2Var_any _ _ _ _ _ _ hN.out).mono ?_; rintro e w2 ⟨rfl, hb2⟩; rw [ha]; obtain ⟨hc2, hf2⟩ := bcell hb2; have hs2 := hb2.size
        go_wp2_with (first | (go_at_call 78; refine (l2Var_any _ _ _ _ _ _ hN.out).mono ?_; rintro e w3 ⟨rfl, hb3⟩))
        go_ret
        refine ⟨rfl, ?_⟩
        clear hc2 hf2
        repeat' (first | exact Below.refl _ _ | assumption | (refine Below.drew ?_) | (refine Below.then ?_ (by assumption) ?_) | (refine Below.alloc ?_ ?_ _) | (refine Below.setCell ?_ ?_ _) | (simp; done) | (simp at *; omega) | omega)
  · rw [if_neg h34]
    have h3 : vk ≠ 3 := fun h => h34 (.inl h)
    have h4 : vk ≠ 4 := fun h => h34 (.inr h)
    clear h34 hn
    go_enter Tryz.func79, Tryz.ntmps79
    go_wp2
    go_ret
    refine ⟨rfl, ?_⟩
    repeat' (first | exact Below.refl _ _ | assumption | (refine Below.drew ?_) | (refine Below.then ?_ (by assumption) ?_) | (refine Below.alloc ?_ ?_ _) | (refine Below.setCell ?_ ?_ _) | (simp; done) | (simp at *; omega) | omega)

end Go.Proofs.YthcgdhlemieboaaGreat

namespace Go.Proofs.YthcgdhlemieboaaGreat
open Go.RowKit
set_option linter.unusedSimpArgs false
set_option linter.unusedVariables false

theorem zz (a b : Nat) : ((a : Int) + (b : Int) == 0) = (decide (a = 0) && decide (b = 0)) := by
  by_cases ha : a = 0 <;> by_cases hb : b = 0 <;> simp [ha, hb] <;> omega

set_option maxHeartbeats 4000000 in
theorem l2Step_of (la : Option Addr) (n lc : Nat) (ss : Value) (p : Pay) (ta ea : Option Addr) (lt tc le ec : Nat) (deep : Int) (B1 B2 : Bool) (w : World) (hn : n ≤ maxLen) (hd : deep ≤ 100)
    (c1 : 1 ≤ deep → ∀ wx, Below w.heap.size w wx → Calls Tryz.prog 35 #[.agg #[.slice la n lc, ss], .slice ta lt tc, .int .i64 (deep - 1)] wx fun e w' => e = .returned (.bool B1) ∧ Below wx.heap.size wx w')
    (c2 : 1 ≤ deep → ∀ wx, Below w.heap.size w wx → Calls Tryz.prog 35 #[.agg #[.slice la n lc, ss], .slice ea le ec, .int .i64 (deep - 1)] wx fun e w' => e = .returned (.bool B2) ∧ Below wx.heap.size wx w')
    (hlt : lt ≤ 1048576) (hle : le ≤ 1048576) :
    Calls Tryz.prog 60 #[.agg #[.slice la n lc, ss], .agg #[.int .i64 p.k, .int .i64 p.v, .int .i64 p.vk, .int .i64 p.va, .int .i64 p.vb, .int .i64 p.h, .slice ta lt tc, .slice ea le ec], .int .i64 deep] w
      fun e w' => e = .returned (.bool (decide (1 ≤ deep) && payB n p (decide (lt + le = 0)) && (!decide (p.k = 2) || (B1 && B2)))) ∧ Below w.heap.size w w' := by
  have hN : Hid (n ≤ maxLen) := hn
  clear hn
  obtain ⟨k, v, vk, va, vb, h⟩ := p
  dsimp only
  by_cases hd1 : 1 ≤ deep
  case neg =>
    have : decide (1 ≤ deep) = false := by simpa using hd1
    rw [this]
    have hlt : deep < 1 := by omega
    go_enter Tryz.func60, Tryz.ntmps60
    go_wp2
    go_ret
    refine ⟨rfl, ?_⟩
    repeat' (first | exact Below.refl _ _ | assumption | (refine Below.drew ?_) | (refine Below.then ?_ (by assumption) ?_) | (refine Below.alloc ?_ ?_ _) | (refine Below.setCell ?_ ?_ _) | (simp; done) | (simp at *; omega) | omega)
  have hd2 : ¬ deep < 1 := by omega
  cases hv : vIn n v
  · go_enter Tryz.func60, Tryz.ntmps60
    go_wp2_with (first | (go_at_call 78; refine (l2Var_any _ _ _ _ _ _ hN.out).mono ?_; rintro e w2 ⟨rfl, hb2⟩; rw [hv]; obtain ⟨hc2, hf2⟩ := bcell hb2; have hs2 := hb2.size))
    go_ret
    refine ⟨by simp [payB, hv], ?_⟩
    clear hc2 hf2
    repeat' (first | exact Below.refl _ _ | assumption | (refine Below.drew ?_) | (refine Below.then ?_ (by assumption) ?_) | (refine Below.alloc ?_ ?_ _) | (refine Below.setCell ?_ ?_ _) | (simp; done) | (simp at *; omega) | omega)
  have hz : IntKind.i64.wrap ((lt : Int) + (le : Int)) = lt + le := w64 _ (by omega)
  have hwd := w64 (deep - 1) (by omega)
  have hD : decide (1 ≤ deep) = true := by simpa using hd1
  have V0 : vIn n v = true := hv
  clear hv
  have split : (vk = 0 ∧ va = 0 ∧ vb = 0) ∨ (¬ vk = 0) ∨ (vk = 0 ∧ ¬ va = 0) ∨ (vk = 0 ∧ va = 0 ∧ ¬ vb = 0) := by omega
  by_cases h1 : k = 1
  · subst h1
    cases hB : valB n vk va vb
    · rcases split with ⟨rfl, rfl, rfl⟩ | s1 | ⟨rfl, s1⟩ | ⟨rfl, rfl, s1⟩
      all_goals
        go_enter Tryz.func60, Tryz.ntmps60
        go_wp2_with fail
        go_at_call 78; refine (l2Var_any _ _ _ _ _ _ hN.out).mono ?_; rintro e w2 ⟨rfl, hb2⟩; rw [V0]; obtain ⟨hc2, hf2⟩ := bcell hb2; have hs2 := hb2.size; have hz2 : w.heap.size + 1 < w2.heap.size := (by have := hb2.size; simp at this; omega); have hy2 : w.heap.size < w2.heap.size := by omega
        go_wp2_with fail
        go_at_call 79; refine (l2Val_any _ _ _ _ _ _ _ _ hN.out).mono ?_; rintro e w3 ⟨rfl, hb3⟩; rw [hB]; obtain ⟨hc3, hf3⟩ := bcell hb3; have hs3 := hb3.size; have hz3 : w.heap.size + 1 < w3.heap.size := (by have := hb3.size; omega); have hy3 : w.heap.size < w3.heap.size := by omega
        go_wp2
        go_ret
        refine ⟨by simp [payB, V0, hB], ?_⟩
        clear hc2 hf2 hc3 hf3
        repeat' (first | exact Below.refl _ _ | assumption | (refine Below.drew ?_) | (refine Below.then ?_ (by assumption) ?_) | (refine Below.alloc ?_ ?_ _) | (refine Below.setCell ?_ ?_ _) | (simp; done) | (simp at *; omega) | omega)
    · have s1 : ¬ vk = 0 := by rintro rfl; simp [valB] at hB
      by_cases h0 : h = 0
      · subst h0
        go_enter Tryz.func60, Tryz.ntmps60
        go_wp2_with fail
        go_at_call 78; refine (l2Var_any _ _ _ _ _ _ hN.out).mono ?_; rintro e w2 ⟨rfl, hb2⟩; rw [V0]; obtain ⟨hc2, hf2⟩ := bcell hb2; have hs2 := hb2.size; have hz2 : w.heap.size + 1 < w2.heap.size := (by have := hb2.size; simp at this; omega); have hy2 : w.heap.size < w2.heap.size := by omega
        go_wp2_with fail
        go_at_call 79; refine (l2Val_any _ _ _ _ _ _ _ _ hN.out).mono ?_; rintro e w3 ⟨rfl, hb3⟩; rw [hB]; obtain ⟨hc3, hf3⟩ := bcell hb3; have hs3 := hb3.size; have hz3 : w.heap.size + 1 < w3.heap.size := (by have := hb3.size; omega); have hy3 : w.heap.size < w3.heap.size := by omega
        go_wp2
        go_ret
        refine ⟨by simp [payB, V0, hB, hD, zz], ?_⟩
        clear hc2 hf2 hc3 hf3
        repeat' (first | exact Below.refl _ _ | assumption | (refine Below.drew ?_) | (refine Below.then ?_ (by assumption) ?_) | (refine Below.alloc ?_ ?_ _) | (refine Below.setCell ?_ ?_ _) | (simp; done) | (simp at *; omega) | omega)
      · go_enter Tryz.func60, Tryz.ntmps60
        go_wp2_with fail
        go_at_call 78; refine (l2Var_any _ _ _ _ _ _ hN.out).mono ?_; rintro e w2 ⟨rfl, hb2⟩; rw [V0]; obtain ⟨hc2, hf2⟩ := bcell hb2; have hs2 := hb2.size; have hz2 : w.heap.size + 1 < w2.heap.size := (by have := hb2.size; simp at this; omega); have hy2 : w.heap.size < w2.heap.size := by omega
        go_wp2_with fail
        go_at_call 79; refine (l2Val_any _ _ _ _ _ _ _ _ hN.out).mono ?_; rintro e w3 ⟨rfl, hb3⟩; rw [hB]; obtain ⟨hc3, hf3⟩ := bcell hb3; have hs3 := hb3.size; have hz3 : w.heap.size + 1 < w3.heap.size := (by have := hb3.size; omega); have hy3 : w.heap.size < w3.heap.size := by omega
        go_wp2
        go_ret
        refine ⟨by simp [payB, V0, hB, h0], ?_⟩
        clear hc2 hf2 hc3 hf3
        repeat' (first | exact Below.refl _ _ | assumption | (refine Below.drew ?_) | (refine Below.then ?_ (by assumption) ?_) | (refine Below.alloc ?_ ?_ _) | (refine Below.setCell ?_ ?_ _) | (simp; done) | (simp at *; omega) | omega)
  by_cases h3 : k = 3
  · subst h3
    rcases split with ⟨rfl, rfl, rfl⟩ | split
    · cases hH : (decide (0 ≤ h) && decide (h ≤ 2))
      all_goals
        have hH' : vIn 3 h = _ := (vIn_le 3 h).trans hH
        go_enter Tryz.func60, Tryz.ntmps60
        go_wp2_with fail
        go_at_call 78; refine (l2Var_any _ _ _ _ _ _ hN.out).mono ?_; rintro e w2 ⟨rfl, hb2⟩; rw [V0]; obtain ⟨hc2, hf2⟩ := bcell hb2; have hs2 := hb2.size; have hz2 : w.heap.size + 1 < w2.heap.size := (by have := hb2.size; simp at this; omega); have hy2 : w.heap.size < w2.heap.size := by omega
        go_wp2_with fail
        go_at_call 14; refine (l6In_any _ _ _ _).mono ?_; rintro e w3 ⟨rfl, hw3⟩; subst w3; rw [hH]
        go_wp2
        go_ret
        refine ⟨by simp [payB, nonV, V0, hH', hD, zz], ?_⟩
        clear hc2 hf2
        repeat' (first | exact Below.refl _ _ | assumption | (refine Below.drew ?_) | (refine Below.then ?_ (by assumption) ?_) | (refine Below.alloc ?_ ?_ _) | (refine Below.setCell ?_ ?_ _) | (simp; done) | (simp at *; omega) | omega)
    · have hnV : ∀ k v h, nonV ⟨k, v, vk, va, vb, h⟩ = false := by intro k v h; simp [nonV]; omega
      rcases split with s1 | ⟨rfl, s1⟩ | ⟨rfl, rfl, s1⟩
      all_goals
        go_enter Tryz.func60, Tryz.ntmps60
        go_wp2_with fail
        go_at_call 78; refine (l2Var_any _ _ _ _ _ _ hN.out).mono ?_; rintro e w2 ⟨rfl, hb2⟩; rw [V0]; obtain ⟨hc2, hf2⟩ := bcell hb2; have hs2 := hb2.size; have hz2 : w.heap.size + 1 < w2.heap.size := (by have := hb2.size; simp at this; omega); have hy2 : w.heap.size < w2.heap.size := by omega
        go_wp2
        go_ret
        refine ⟨by simp [payB, V0, hnV], ?_⟩
        clear hc2 hf2
        repeat' (first | exact Below.refl _ _ | assumption | (refine Below.drew ?_) | (refine Below.then ?_ (by assumption) ?_) | (refine Below.alloc ?_ ?_ _) | (refine Below.setCell ?_ ?_ _) | (simp; done) | (simp at *; omega) | omega)
  by_cases h2 : k = 2
  · subst h2
    rcases split with ⟨rfl, rfl, rfl⟩ | split
    · by_cases h0 : h = 0
      · subst h0
        have C1 : Hid _ := c1 hd1
        have C2 : Hid _ := c2 hd1
        clear c1 c2
        cases B1
        · go_enter Tryz.func60, Tryz.ntmps60
          go_wp2_with fail
          go_at_call 78; refine (l2Var_any _ _ _ _ _ _ hN.out).mono ?_; rintro e w2 ⟨rfl, hb2⟩; rw [V0]; obtain ⟨hc2, hf2⟩ := bcell hb2; have hs2 := hb2.size; have hz2 : w.heap.size + 1 < w2.heap.size := (by have := hb2.size; simp at this; omega); have hy2 : w.heap.size < w2.heap.size := by omega
          go_wp2_with fail
          go_at_call 35; refine (C1.out _ (by clear hc2 hf2; repeat' (first | exact Below.refl _ _ | assumption | (refine Below.drew ?_) | (refine Below.then ?_ (by assumption) ?_) | (refine Below.alloc ?_ ?_ _) | (refine Below.setCell ?_ ?_ _) | (simp; done) | (simp at *; omega) | omega))).mono ?_; rintro e w3 ⟨rfl, hb3⟩
          go_wp2
          go_ret
          refine ⟨by simp [payB, nonV, V0, hD], ?_⟩
          clear hc2 hf2
          repeat' (first | exact Below.refl _ _ | assumption | (refine Below.drew ?_) | (refine Below.then ?_ (by assumption) ?_) | (refine Below.alloc ?_ ?_ _) | (refine Below.setCell ?_ ?_ _) | (simp; done) | (simp at *; omega) | omega)
        · go_enter Tryz.func60, Tryz.ntmps60
          go_wp2_with fail
          go_at_call 78; refine (l2Var_any _ _ _ _ _ _ hN.out).mono ?_; rintro e w2 ⟨rfl, hb2⟩; rw [V0]; obtain ⟨hc2, hf2⟩ := bcell hb2; have hs2 := hb2.size; have hz2 : w.heap.size + 1 < w2.heap.size := (by have := hb2.size; simp at this; omega); have hy2 : w.heap.size < w2.heap.size := by omega
          go_wp2_with fail
          go_at_call 35; refine (C1.out _ (by clear hc2 hf2; repeat' (first | exact Below.refl _ _ | assumption | (refine Below.drew ?_) | (refine Below.then ?_ (by assumption) ?_) | (refine Below.alloc ?_ ?_ _) | (refine Below.setCell ?_ ?_ _) | (simp; done) | (simp at *; omega) | omega))).mono ?_; rintro e w3 ⟨rfl, hb3⟩; obtain ⟨hc3, hf3⟩ := bcell hb3; have hs3 := hb3.size; have hz3 : w.heap.size + 1 < w3.heap.size := (by have := hb3.size; omega); have hy3 : w.heap.size < w3.heap.size := by omega
          go_wp2_with fail
          go_at_call 35; refine (C2.out _ (by clear hc2 hf2 hc3 hf3; repeat' (first | exact Below.refl _ _ | assumption | (refine Below.drew ?_) | (refine Below.then ?_ (by assumption) ?_) | (refine Below.alloc ?_ ?_ _) | (refine Below.setCell ?_ ?_ _) | (simp; done) | (simp at *; omega) | omega))).mono ?_; rintro e w4 ⟨rfl, hb4⟩
          go_wp2
          go_ret
          refine ⟨by simp [payB, nonV, V0, hD], ?_⟩
          clear hc2 hf2 hc3 hf3
          repeat' (first | exact Below.refl _ _ | assumption | (refine Below.drew ?_) | (refine Below.then ?_ (by assumption) ?_) | (refine Below.alloc ?_ ?_ _) | (refine Below.setCell ?_ ?_ _) | (simp; done) | (simp at *; omega) | omega)
      · go_enter Tryz.func60, Tryz.ntmps60
        go_wp2_with fail
        go_at_call 78; refine (l2Var_any _ _ _ _ _ _ hN.out).mono ?_; rintro e w2 ⟨rfl, hb2⟩; rw [V0]; obtain ⟨hc2, hf2⟩ := bcell hb2; have hs2 := hb2.size; have hz2 : w.heap.size + 1 < w2.heap.size := (by have := hb2.size; simp at this; omega); have hy2 : w.heap.size < w2.heap.size := by omega
        go_wp2
        go_ret
        refine ⟨by simp [payB, V0, h0], ?_⟩
        clear hc2 hf2
        repeat' (first | exact Below.refl _ _ | assumption | (refine Below.drew ?_) | (refine Below.then ?_ (by assumption) ?_) | (refine Below.alloc ?_ ?_ _) | (refine Below.setCell ?_ ?_ _) | (simp; done) | (simp at *; omega) | omega)
    · have hnV : ∀ k v h, nonV ⟨k, v, vk, va, vb, h⟩ = false := by intro k v h; simp [nonV]; omega
      rcases split with s1 | ⟨rfl, s1⟩ | ⟨rfl, rfl, s1⟩
      all_goals
        go_enter Tryz.func60, Tryz.ntmps60
        go_wp2_with fail
        go_at_call 78; refine (l2Var_any _ _ _ _ _ _ hN.out).mono ?_; rintro e w2 ⟨rfl, hb2⟩; rw [V0]; obtain ⟨hc2, hf2⟩ := bcell hb2; have hs2 := hb2.size; have hz2 : w.heap.size + 1 < w2.heap.size := (by have := hb2.size; simp at this; omega); have hy2 : w.heap.size < w2.heap.size := by omega
        go_wp2
        go_ret
        refine ⟨by simp [payB, V0, hnV], ?_⟩
        clear hc2 hf2
        repeat' (first | exact Below.refl _ _ | assumption | (refine Below.drew ?_) | (refine Below.then ?_ (by assumption) ?_) | (refine Below.alloc ?_ ?_ _) | (refine Below.setCell ?_ ?_ _) | (simp; done) | (simp at *; omega) | omega)
  · rcases split with ⟨rfl, rfl, rfl⟩ | s1 | ⟨rfl, s1⟩ | ⟨rfl, rfl, s1⟩
    all_goals
      go_enter Tryz.func60, Tryz.ntmps60
      go_wp2_with fail
      go_at_call 78; refine (l2Var_any _ _ _ _ _ _ hN.out).mono ?_; rintro e w2 ⟨rfl, hb2⟩; rw [V0]; obtain ⟨hc2, hf2⟩ := bcell hb2; have hs2 := hb2.size; have hz2 : w.heap.size + 1 < w2.heap.size := (by have := hb2.size; simp at this; omega); have hy2 : w.heap.size < w2.heap.size := by omega
      go_wp2
      go_ret
      refine ⟨by simp [payB, V0, h1, h2, h3], ?_⟩
      clear hc2 hf2
      repeat' (first | exact Below.refl _ _ | assumption | (refine Below.drew ?_) | (refine Below.then ?_ (by assumption) ?_) | (refine Below.alloc ?_ ?_ _) | (refine Below.setCell ?_ ?_ _) | (simp; done) | (simp at *; omega) | omega)

end Go.Proofs.YthcgdhlemieboaaGreat

namespace Go.Proofs.YthcgdhlemieboaaGreat
open Go.RowKit
set_option linter.unusedSimpArgs false
set_option linter.unusedVariables false
attribute [local go_sem ↓] Go.wp_at_zero Go.wp_at_succ

theorem SH {w : World} {la : Option Addr} {n lc : Nat} {ss : Value} {b o : Nat} {p : Pay} {t e : Value} {wz : World}
    (h : wz.cell? ⟨w.heap.size, 0, none⟩ = some (.slice la n lc) ∧ wz.cell? ⟨w.heap.size, 1, none⟩ = some ss ∧ StepAt wz b o p t e ∧ Below w.heap.size w wz) :
    wz.drew.cell? ⟨w.heap.size, 0, none⟩ = some (.slice la n lc) ∧ wz.drew.cell? ⟨w.heap.size, 1, none⟩ = some ss ∧ StepAt wz.drew b o p t e ∧ Below w.heap.size w wz.drew :=
  ⟨h.1, h.2.1, h.2.2.1, h.2.2.2.drew⟩
theorem SB {w : World} {la : Option Addr} {n lc : Nat} {ss : Value} {b o : Nat} {p : Pay} {t e : Value} {wz wx : World}
    (h : wz.cell? ⟨w.heap.size, 0, none⟩ = some (.slice la n lc) ∧ wz.cell? ⟨w.heap.size, 1, none⟩ = some ss ∧ StepAt wz b o p t e ∧ Below w.heap.size w wz) (hb : Below wz.heap.size wz wx) :
    wx.cell? ⟨w.heap.size, 0, none⟩ = some (.slice la n lc) ∧ wx.cell? ⟨w.heap.size, 1, none⟩ = some ss ∧ StepAt wx b o p t e ∧ Below w.heap.size w wx :=
  ⟨cell_later hb h.1, cell_later hb h.2.1, h.2.2.1.on (fun _ _ h => cell_later hb h), Below.then h.2.2.2 hb h.2.2.2.size⟩

theorem l2Steps_nil (la : Option Addr) (n lc : Nat) (ss : Value) (a : Option Addr) (c : Nat) (deep : Int) (w : World) :
    Calls Tryz.prog 35 #[.agg #[.slice la n lc, ss], .slice a 0 c, .int .i64 deep] w fun e w' => e = .returned (.bool true) ∧ Below w.heap.size w w' := by
  go_enter Tryz.func35, Tryz.ntmps35
  go_wp2
  refine wp_loop_rounds 1 ?_
  rw [rounds_succ]
  go_wp2
  go_ret
  refine ⟨rfl, ?_⟩
  repeat' (first | exact Below.refl _ _ | assumption | (refine Below.drew ?_) | (refine Below.then ?_ (by assumption) ?_) | (refine Below.alloc ?_ ?_ _) | (refine Below.setCell ?_ ?_ _) | (simp; done) | (simp at *; omega) | omega)

theorem elB_eq (n : Int) (p : Pay) (d : Nat) (T1 T2 : Tr d) (deep : Int) :
    (decide (1 ≤ deep) && payB n p (decide (ln d T1 + ln d T2 = 0)) && (!decide (p.k = 2) || (stB n d (deep - 1) T1 && stB n d (deep - 1) T2))) =
    (decide (1 ≤ deep) && payB n p (decide (ln d T1 + ln d T2 = 0)) && (stB n d (deep - 1) T1 && stB n d (deep - 1) T2)) := by
  by_cases hk : p.k = 2
  · simp [hk]
  · cases hp : payB n p (decide (ln d T1 + ln d T2 = 0))
    · simp
    · have hz : ln d T1 + ln d T2 = 0 := by
        unfold payB at hp
        rcases Classical.em (ln d T1 + ln d T2 = 0) with h | h
        · exact h
        · rw [decide_eq_false h] at hp; simp [hk] at hp
      rw [stB_nil d _ T1 (by omega), stB_nil d _ T2 (by omega)]
      simp

set_option maxHeartbeats 4000000 in
theorem l2Steps_any (la : Option Addr) (n lc : Nat) (ss : Value) (hn : n ≤ maxLen) : ∀ (d : Nat) (T : Tr d) (s : Value) (deep : Int) (w : World), Rep w d s T → cnt d T ≤ 1048576 → 0 ≤ deep → deep ≤ 100 →
    Calls Tryz.prog 35 #[.agg #[.slice la n lc, ss], s, .int .i64 deep] w fun e w' => e = .returned (.bool (stB n d deep T)) ∧ Below w.heap.size w w' := by
  intro d
  induction d with
  | zero =>
    intro T s deep w h _ _ _
    obtain ⟨a, c, rfl⟩ := h
    exact l2Steps_nil la n lc ss a c deep w
  | succ d ih =>
    intro (l : List (Pay × Tr d × Tr d)) s deep w h hcn hd0 hd1
    obtain ⟨a, c, rfl, hlc, hcm, hcell⟩ := h
    have hlm : (l.length : Int) ≤ 9223372036854775807 := by unfold maxLen at hcm; omega
    have HC : Hid (∀ i (hi : i < l.length), ∃ (p : Pay) (T1 T2 : Tr d) (b off : Nat) (ta : Option Addr) (tc : Nat) (ea : Option Addr) (ec : Nat), l[i] = (p, T1, T2) ∧ a = some ⟨b, off, none⟩ ∧ StepAt w b (off + i * 8) p (.slice ta (ln d T1) tc) (.slice ea (ln d T2) ec) ∧ Rep w d (.slice ta (ln d T1) tc) T1 ∧ Rep w d (.slice ea (ln d T2) ec) T2) := (show ∀ i (hi : i < l.length), _ by
      intro i hi
      obtain ⟨b, off, t, e, ha, hS, r1, r2⟩ := hcell i hi
      obtain ⟨ta, tc, rfl⟩ := r1.slice
      obtain ⟨ea, ec, rfl⟩ := r2.slice
      exact ⟨_, _, _, b, off, ta, tc, ea, ec, rfl, ha, hS, r1, r2⟩)
    have IH : Hid _ := ih
    have HN : Hid (n ≤ maxLen) := hn
    clear ih hcell
    go_enter Tryz.func35, Tryz.ntmps35
    go_wp2
    go_loopw [7] (fun j wr => ∃ (i : Nat), i ≤ l.length ∧ j = .int .i64 i ∧ Below w.heap.size w wr ∧ wr.cell? ⟨w.heap.size, 0, none⟩ = some (.slice la n lc) ∧ wr.cell? ⟨w.heap.size, 1, none⟩ = some ss ∧
        stB n (d + 1) deep (l.take i : List (Pay × Tr d × Tr d)) = true) (fun j _ => l.length - (intOf j).toNat)
    case atStart => exact ⟨0, by omega, rfl, (Below.refl _ _).alloc (Nat.le_refl _) _, by simp, by simp, rfl⟩
    case round =>
      obtain ⟨i, hi, rfl, hbr, hpl, hps, hst⟩ := hrel
      by_cases hlt : i < l.length
      · obtain ⟨p, T1, T2, b, off, ta, tc, ea, ec, hx, rfl, hS, r1, r2⟩ := HC.out i hlt
        have hSt := hS.on (w' := wr) (fun a v h => cell_later hbr h)
        have i0' : (0 : Int) ≤ (i : Int) := by omega
        have i1' : (i : Int) < (l.length : Int) := by omega
        have q1 := cnt_take l i hlt
        have q3 := stB_take (n := n) (deep := deep) l i hlt
        rw [hx] at q1 q3
        dsimp only at q1 q3
        rw [hst, Bool.true_and] at q3
        have q4 := cnt_take_le l (i + 1)
        have q5 := stB_take_false (n := n) (deep := deep) l (i + 1)
        have l1 := ln_le_cnt d T1
        have l2 := ln_le_cnt d T2
        have c1 : Hid (∀ wx, Below w.heap.size w wx → Calls Tryz.prog 60 #[.agg #[.slice la n lc, ss], .agg #[.int .i64 p.k, .int .i64 p.v, .int .i64 p.vk, .int .i64 p.va, .int .i64 p.vb, .int .i64 p.h, .slice ta (ln d T1) tc, .slice ea (ln d T2) ec], .int .i64 deep] wx
            fun e w' => e = .returned (.bool (decide (1 ≤ deep) && payB n p (decide (ln d T1 + ln d T2 = 0)) && (stB n d (deep - 1) T1 && stB n d (deep - 1) T2))) ∧ Below wx.heap.size wx w') := (show ∀ wx, _ by
          intro wx hwx
          rw [← elB_eq]
          exact l2Step_of la n lc ss p ta ea _ tc _ ec deep _ _ wx HN.out hd1 (fun h1 wy hy => IH.out T1 _ (deep - 1) wy (r1.below (hwx.trans (hy.mono hwx.size))) (by omega) (by omega) (by omega)) (fun h1 wy hy => IH.out T2 _ (deep - 1) wy (r2.below (hwx.trans (hy.mono hwx.size))) (by omega) (by omega) (by omega)) (by omega) (by omega))
        clear q1 q4 hS
        generalize hres : (decide (1 ≤ deep) && payB n p (decide (ln d T1 + ln d T2 = 0)) && (stB n d (deep - 1) T1 && stB n d (deep - 1) T2)) = res at c1 q3
        clear hres
        have HQ3 : Hid _ := q3
        have HQ5 : Hid _ := q5
        clear q3 q5 r1 r2
        go_wp2_with fail
        refine wp_region_held (S := (fun wz => wz.cell? ⟨w.heap.size, 0, none⟩ = some (.slice la n lc) ∧ wz.cell? ⟨w.heap.size, 1, none⟩ = some ss ∧ StepAt wz b (off + i * 8) p (.slice ta (ln d T1) tc) (.slice ea (ln d T2) ec) ∧ Below w.heap.size w wz)) (by kernel_rfl) ?_
        change wpAnyH _ _ _ _ _ _ _ _ (World.drew _)
        have hHeld := SH ⟨hpl, hps, hSt, hbr⟩
        refine' wpAnyH_take (i := 0) (v := .agg #[.slice la n lc, ss]) rfl (by kernel_rfl) (by kernel_rfl) (by kernel_rfl) (fun _ _ _ h => h) (Or.inl ⟨by rfl, ?hy1⟩) hHeld ?hn1
        case hy1 => (intro wz hSw; obtain ⟨k0, k1, _, _⟩ := hSw; go_simp)
        try simp only [nrm, Act.put]
        refine' wpAnyH_take (i := 1) (v := _) rfl (by kernel_rfl) (by kernel_rfl) (by kernel_rfl) (fun _ _ _ h => h) (Or.inl ⟨by rfl, ?hy2⟩) hHeld ?hn2
        case hy2 => (intro wz hSw; (try dsimp only at hSw); go_simp; first | done | with_reducible rfl)
        try simp only [nrm, Act.put]
        refine' wpAnyH_take (i := 2) (v := _) rfl (by kernel_rfl) (by kernel_rfl) (by kernel_rfl) (fun _ _ _ h => h) (Or.inl ⟨by rfl, ?hy3⟩) hHeld ?hn3
        case hy3 => (intro wz hSw; (try dsimp only at hSw); go_simp; first | done | with_reducible rfl)
        try simp only [nrm, Act.put]
        refine' wpAnyH_take (i := 3) (v := _) rfl (by kernel_rfl) (by kernel_rfl) (by kernel_rfl) (fun _ _ _ h => h) (Or.inl ⟨by rfl, ?hy4⟩) hHeld ?hn4
        case hy4 => (intro wz hSw; (try dsimp only at hSw); go_simp; first | done | with_reducible rfl)
        try simp only [nrm, Act.put]
        refine' wpAnyH_take (i := 4) (v := .agg #[.int .i64 p.k, .int .i64 p.v, .int .i64 p.vk, .int .i64 p.va, .int .i64 p.vb, .int .i64 p.h, .slice ta (ln d T1) tc, .slice ea (ln d T2) ec]) rfl (by kernel_rfl) (by kernel_rfl) (by kernel_rfl) (fun _ _ _ h => h) (Or.inl ⟨by rfl, ?hy5⟩) hHeld ?hn5
        case hy5 => (intro wz hSw; obtain ⟨_, _, ⟨k0, k1, k2, k3, k4, k5, k6, k7⟩, _⟩ := hSw; go_simp)
        try simp only [nrm, Act.put]
        refine' wpAnyH_take (i := 5) (v := _) rfl (by kernel_rfl) (by kernel_rfl) (by kernel_rfl) (fun _ _ _ h => h) (Or.inl ⟨by rfl, ?hy6⟩) hHeld ?hn6
        case hy6 => (intro wz hSw; (try dsimp only at hSw); go_simp; first | done | with_reducible rfl)
        try simp only [nrm, Act.put]
        refine wpAnyH_ready (rs := [6]) (by kernel_rfl) (by simp) ?_
        refine AllReadyH.cons rfl (fun K hK => ?_) AllReadyH.nil
        go_simp
        refine (c1.out _ hHeld.2.2.2).mono ?_; rintro e' w9 ⟨rfl, hbx⟩
        refine hK.out _ _ (SB hHeld hbx) (fun hHeld => ?_)
        clear hK K
        refine' wpAnyH_take (i := 7) (v := _) rfl (by kernel_rfl) (by kernel_rfl) (by kernel_rfl) (fun _ _ _ h => h) (Or.inl ⟨by rfl, ?hy7⟩) hHeld ?hn7
        case hy7 => (intro wz hSw; (try dsimp only at hSw); go_simp; first | done | with_reducible rfl)
        try simp only [nrm, Act.put]
        refine wpAnyH_done (by kernel_rfl) ?_ _
        obtain ⟨hp0, hp1, _, hB9⟩ := hHeld
        cases res
        · go_wp2
          go_ret
          exact ⟨by rw [HQ5.out HQ3.out]; rfl, hB9⟩
        · go_wp2
          go_roundw
          case rel => exact ⟨i + 1, by omega, by go_num, hB9, hp0, hp1, HQ3.out⟩
          case measure => simp [intOf]; omega
      · have : i = l.length := by omega
        subst this
        rw [List.take_length] at hst
        have HST : Hid _ := hst
        have HB : Hid _ := hbr
        clear hst hbr
        go_wp2
        go_ret
        exact ⟨by rw [HST.out]; rfl, HB.out⟩

end Go.Proofs.YthcgdhlemieboaaGreat

namespace Go.Proofs.YthcgdhlemieboaaGreat
open Go.RowKit
set_option linter.unusedSimpArgs false
set_option linter.unusedVariables false
attribute [local go_sem ↓] Go.wp_at_zero Go.wp_at_succ

theorem count_nil (a : Option Addr) (c : Nat) (w : World) :
    Calls Tryz.prog 36 #[.slice a 0 c] w fun e w' => e = .returned (.int .i64 0) ∧ w' = w := by
  go_enter Tryz.func36, Tryz.ntmps36
  go_wp2
  refine wp_loop_rounds 1 ?_
  rw [rounds_succ]
  go_wp2
  go_ret
  exact ⟨rfl, rfl⟩
theorem SN_of {w wz : World} {a b : Addr} {t e : Value} (hx : ∃ n, wz = w.drewN n) (h6 : w.cell? a = some t) (h7 : w.cell? b = some e) : wz.cell? a = some t ∧ wz.cell? b = some e ∧ ∃ n, wz = w.drewN n := by
  obtain ⟨n, rfl⟩ := hx
  exact ⟨h6, h7, n, rfl⟩
theorem calls_drewN {d f : Nat} (ih : ∀ (T : Tr d) (s : Value) (w : World), Rep w d s T → cnt d T ≤ 1048576 → Calls Tryz.prog f #[s] w fun e w' => e = .returned (.int .i64 (cnt d T)) ∧ ∃ n, w' = w.drewN n)
    {w wx : World} (hx : ∃ n, wx = w.drewN n) {T : Tr d} {s : Value} (h : Rep w d s T) (hc : cnt d T ≤ 1048576) : Calls Tryz.prog f #[s] wx fun e w' => e = .returned (.int .i64 (cnt d T)) ∧ ∃ n, w' = w.drewN n := by
  obtain ⟨m, rfl⟩ := hx
  refine (ih T s (w.drewN m) (Rep.on (w := w) (w' := w.drewN m) (fun _ _ h => h) d s T h) hc).mono ?_
  rintro e w' ⟨he, n, rfl⟩
  exact ⟨he, m + n, by simp [World.drewN, Nat.add_assoc]⟩

set_option maxHeartbeats 2000000 in
theorem count_any0 : ∀ (d : Nat) (T : Tr d) (s : Value) (w : World), Rep w d s T → cnt d T ≤ 1048576 →
    Calls Tryz.prog 36 #[s] w fun e w' => e = .returned (.int .i64 (cnt d T)) ∧ ∃ n, w' = w.drewN n := by
  intro d
  induction d with
  | zero =>
    intro T s w h hc
    obtain ⟨a, c, rfl⟩ := h
    exact (count_nil a c w).mono fun e w' h => ⟨h.1, 0, h.2⟩
  | succ d ih =>
    intro (l : List (Pay × Tr d × Tr d)) s w h hc
    obtain ⟨a, c, rfl, hlc, hcm, hcell⟩ := h
    have hlm : (l.length : Int) ≤ 9223372036854775807 := by unfold maxLen at hcm; omega
    have IH : Hid (∀ (T : Tr d) (s : Value) (w : World), Rep w d s T → cnt d T ≤ 1048576 → Calls Tryz.prog 36 #[s] w fun e w' => e = .returned (.int .i64 (cnt d T)) ∧ ∃ n, w' = w.drewN n) := ih
    have HC : Hid (∀ i (hi : i < l.length), ∃ b off t e, a = some ⟨b, off, none⟩ ∧ w.cell? ⟨b, off + i * 8 + 6, none⟩ = some t ∧ w.cell? ⟨b, off + i * 8 + 7, none⟩ = some e ∧ Rep w d t l[i].2.1 ∧ Rep w d e l[i].2.2) := (show ∀ i (hi : i < l.length), _ by
      intro i hi
      obtain ⟨b, off, t, e, ha, ⟨_, _, _, _, _, _, h6, h7⟩, r1, r2⟩ := hcell i hi
      exact ⟨b, off, t, e, ha, h6, h7, r1, r2⟩)
    have HT : Hid (∀ i (hi : i < l.length), cnt (d + 1) (l.take (i + 1) : List (Pay × Tr d × Tr d)) = cnt (d + 1) (l.take i : List (Pay × Tr d × Tr d)) + 1 + cnt d l[i].2.1 + cnt d l[i].2.2) := cnt_take l
    have HL : Hid (∀ i, cnt (d + 1) (l.take i : List (Pay × Tr d × Tr d)) ≤ cnt (d + 1) (l : List (Pay × Tr d × Tr d))) := cnt_take_le l
    clear ih hcell
    go_enter Tryz.func36, Tryz.ntmps36
    go_wp2
    go_loopw [3, 4] (fun o j wr => ∃ i : Nat, i ≤ l.length ∧ j = .int .i64 i ∧ o = .int .i64 (cnt (d + 1) (l.take i : List (Pay × Tr d × Tr d)) : Nat) ∧ ∃ n, wr = w.drewN n) (fun _ j _ => l.length - (intOf j).toNat)
    case atStart => exact ⟨0, by omega, rfl, rfl, 0, rfl⟩
    case round =>
      obtain ⟨i, hi, rfl, rfl, n, rfl⟩ := hrel
      by_cases hlt : i < l.length
      · obtain ⟨b, off, t, e, rfl, h6, h7, r1, r2⟩ := HC.out i hlt
        have q1 := HT.out i hlt
        have q2 := HL.out (i + 1)
        have HQ : Hid (cnt (d + 1) (l.take (i + 1) : List (Pay × Tr d × Tr d)) = cnt (d + 1) (l.take i : List (Pay × Tr d × Tr d)) + 1 + cnt d l[i].2.1 + cnt d l[i].2.2) := q1
        have c1 : Hid (∀ wx, (∃ n, wx = w.drewN n) → Calls Tryz.prog 36 #[t] wx fun e w' => e = .returned (.int .i64 (cnt d l[i].2.1)) ∧ ∃ n, w' = w.drewN n) := (show ∀ wx, _ from fun wx hx => calls_drewN IH.out hx r1 (by omega))
        have c2 : Hid (∀ wx, (∃ n, wx = w.drewN n) → Calls Tryz.prog 36 #[e] wx fun e w' => e = .returned (.int .i64 (cnt d l[i].2.2)) ∧ ∃ n, w' = w.drewN n) := (show ∀ wx, _ from fun wx hx => calls_drewN IH.out hx r2 (by omega))
        clear HL HT
        generalize cnt (d + 1) (l.take i : List (Pay × Tr d × Tr d)) = A at *
        generalize cnt d l[i].2.1 = X at *
        generalize cnt d l[i].2.2 = Y at *
        have bA : (A : Int) + 1 + X + Y ≤ 1048576 := by omega
        clear q1 q2 r1 r2
        have v1 := w64 ((A : Int) + 1) (by omega)
        have v2 := w64 ((A : Int) + 1 + X) (by omega)
        have v3 := w64 ((A : Int) + 1 + X + Y) (by omega)
        have i0 : (0 : Int) ≤ (i : Int) := by omega
        have i1 : (i : Int) < (l.length : Int) := by omega
        go_wp2
        refine wp_region_held (S := (fun wz => wz.cell? ⟨b, off + i * 8 + 6, none⟩ = some t ∧ wz.cell? ⟨b, off + i * 8 + 7, none⟩ = some e ∧ ∃ n, wz = w.drewN n)) (by kernel_rfl) ?_
        change wpAnyH _ _ _ _ _ _ _ _ (World.drew _)
        have hHeld := SN_of ⟨n + 1, rfl⟩ h6 h7
        refine' wpAnyH_take (i := 0) (v := _) rfl (by kernel_rfl) (by kernel_rfl) (by kernel_rfl) (fun _ _ _ h => h) (Or.inl ⟨by rfl, ?hy8⟩) hHeld ?hn8
        case hy8 => (intro wz hSw; (try dsimp only at hSw); go_simp; first | done | with_reducible rfl)
        try simp only [nrm, Act.put]
        refine' wpAnyH_take (i := 1) (v := _) rfl (by kernel_rfl) (by kernel_rfl) (by kernel_rfl) (fun _ _ _ h => h) (Or.inl ⟨by rfl, ?hy9⟩) hHeld ?hn9
        case hy9 => (intro wz hSw; (try dsimp only at hSw); go_simp; first | done | with_reducible rfl)
        try simp only [nrm, Act.put]
        refine' wpAnyH_take (i := 2) (v := _) rfl (by kernel_rfl) (by kernel_rfl) (by kernel_rfl) (fun _ _ _ h => h) (Or.inl ⟨by rfl, ?hy10⟩) hHeld ?hn10
        case hy10 => (intro wz hSw; (try dsimp only at hSw); go_simp; first | done | with_reducible rfl)
        try simp only [nrm, Act.put]
        refine' wpAnyH_take (i := 3) (v := _) rfl (by kernel_rfl) (by kernel_rfl) (by kernel_rfl) (fun _ _ _ h => h) (Or.inl ⟨by rfl, ?hy11⟩) hHeld ?hn11
        case hy11 => (intro wz hSw; (try dsimp only at hSw); go_simp; first | done | with_reducible rfl)
        try simp only [nrm, Act.put]
        refine' wpAnyH_take (i := 4) (v := _) rfl (by kernel_rfl) (by kernel_rfl) (by kernel_rfl) (fun _ _ _ h => h) (Or.inl ⟨by rfl, ?hy12⟩) hHeld ?hn12
        case hy12 => (intro wz hSw; (try dsimp only at hSw); go_simp; first | done | with_reducible rfl)
        try simp only [nrm, Act.put]
        refine' wpAnyH_take (i := 5) (v := _) rfl (by kernel_rfl) (by kernel_rfl) (by kernel_rfl) (fun _ _ _ h => h) (Or.inl ⟨by rfl, ?hy13⟩) hHeld ?hn13
        case hy13 => (intro wz hSw; (try dsimp only at hSw); go_simp; first | done | with_reducible rfl)
        try simp only [nrm, Act.put]
        refine' wpAnyH_take (i := 6) (v := _) rfl (by kernel_rfl) (by kernel_rfl) (by kernel_rfl) (fun _ _ _ h => h) (Or.inl ⟨by rfl, ?hy14⟩) hHeld ?hn14
        case hy14 => (intro wz hSw; (try dsimp only at hSw); go_simp; first | done | with_reducible rfl)
        try simp only [nrm, Act.put]
        refine' wpAnyH_take (i := 9) (v := _) rfl (by kernel_rfl) (by kernel_rfl) (by kernel_rfl) (fun _ _ _ h => h) (Or.inl ⟨by rfl, ?hy15⟩) hHeld ?hn15
        case hy15 => (intro wz hSw; (try dsimp only at hSw); go_simp; first | done | with_reducible rfl)
        try simp only [nrm, Act.put]
        refine' wpAnyH_take (i := 10) (v := _) rfl (by kernel_rfl) (by kernel_rfl) (by kernel_rfl) (fun _ _ _ h => h) (Or.inl ⟨by rfl, ?hy16⟩) hHeld ?hn16
        case hy16 => (intro wz hSw; (try dsimp only at hSw); go_simp; first | done | with_reducible rfl)
        try simp only [nrm, Act.put]
        refine' wpAnyH_take (i := 11) (v := _) rfl (by kernel_rfl) (by kernel_rfl) (by kernel_rfl) (fun _ _ _ h => h) (Or.inl ⟨by rfl, ?hy17⟩) hHeld ?hn17
        case hy17 => (intro wz hSw; (try dsimp only at hSw); go_simp; first | done | with_reducible rfl)
        try simp only [nrm, Act.put]
        refine' wpAnyH_take (i := 12) (v := _) rfl (by kernel_rfl) (by kernel_rfl) (by kernel_rfl) (fun _ _ _ h => h) (Or.inl ⟨by rfl, ?hy18⟩) hHeld ?hn18
        case hy18 => (intro wz hSw; (try dsimp only at hSw); go_simp; first | done | with_reducible rfl)
        try simp only [nrm, Act.put]
        refine' wpAnyH_take (i := 13) (v := _) rfl (by kernel_rfl) (by kernel_rfl) (by kernel_rfl) (fun _ _ _ h => h) (Or.inl ⟨by rfl, ?hy19⟩) hHeld ?hn19
        case hy19 => (intro wz hSw; (try dsimp only at hSw); go_simp; first | done | with_reducible rfl)
        try simp only [nrm, Act.put]
        refine wpAnyH_ready (rs := [7]) (by kernel_rfl) (by simp) ?_
        refine AllReadyH.cons rfl (fun K hK => ?_) AllReadyH.nil
        go_simp
        refine (c1.out _ hHeld.2.2).mono ?_; rintro e' w9 ⟨rfl, hbx⟩
        refine hK.out _ _ (SN_of hbx h6 h7) (fun hHeld => ?_)
        clear hK K
        refine' wpAnyH_take (i := 8) (v := _) rfl (by kernel_rfl) (by kernel_rfl) (by kernel_rfl) (fun _ _ _ h => h) (Or.inl ⟨by rfl, ?hy20⟩) hHeld ?hn20
        case hy20 => (intro wz hSw; (try dsimp only at hSw); go_simp; first | done | with_reducible rfl)
        try simp only [nrm, Act.put]
        refine wpAnyH_ready (rs := [14]) (by kernel_rfl) (by simp) ?_
        refine AllReadyH.cons rfl (fun K hK => ?_) AllReadyH.nil
        go_simp
        refine (c2.out _ hHeld.2.2).mono ?_; rintro e' w9 ⟨rfl, hbx⟩
        refine hK.out _ _ (SN_of hbx h6 h7) (fun hHeld => ?_)
        clear hK K
        refine' wpAnyH_take (i := 15) (v := _) rfl (by kernel_rfl) (by kernel_rfl) (by kernel_rfl) (fun _ _ _ h => h) (Or.inl ⟨by rfl, ?hy21⟩) hHeld ?hn21
        case hy21 => (intro wz hSw; (try dsimp only at hSw); go_simp; first | done | with_reducible rfl)
        try simp only [nrm, Act.put]
        refine' wpAnyH_take (i := 16) (v := _) rfl (by kernel_rfl) (by kernel_rfl) (by kernel_rfl) (fun _ _ _ h => h) (Or.inl ⟨by rfl, ?hy22⟩) hHeld ?hn22
        case hy22 => (intro wz hSw; (try dsimp only at hSw); go_simp; first | done | with_reducible rfl)
        try simp only [nrm, Act.put]
        refine wpAnyH_done (by kernel_rfl) ?_ _
        go_wp2
        go_roundw
        case rel => exact ⟨i + 1, by omega, by go_num, by rw [HQ.out]; simp, hHeld.2.2⟩
        case measure => simp [intOf]; omega
      · have : i = l.length := by omega
        subst this
        go_wp2
        go_ret
        exact ⟨by rw [List.take_length]; rfl, n, rfl⟩
theorem below_drewN (w : World) (n : Nat) : Below w.heap.size w (w.drewN n) := ⟨rfl, rfl, rfl, Nat.le_refl _, fun _ _ => rfl⟩
theorem count_any {d : Nat} {T : Tr d} {s : Value} {w : World} (h : Rep w d s T) (hc : cnt d T ≤ 1048576) :
    Calls Tryz.prog 36 #[s] w fun e w' => e = .returned (.int .i64 (cnt d T)) ∧ Below w.heap.size w w' :=
  (count_any0 d T s w h hc).mono fun e w' ⟨he, n, hn⟩ => ⟨he, hn ▸ below_drewN w n⟩

def labsB (ls : List (Int × Int)) : Bool := ls.all fun a => okB a.1 a.2
def progB (ls : List (Int × Int)) (d : Nat) (T : Tr d) : Bool := decide (ls.length ≤ 4) && (labsB ls && (stB ls.length d 3 T && decide (cnt d T ≤ 8)))
theorem labs_take (ls : List (Int × Int)) (i : Nat) (hi : i < ls.length) : labsB (ls.take (i + 1)) = (labsB (ls.take i) && okB ls[i].1 ls[i].2) := by
  show List.all (ls.take (i + 1)) _ = (List.all (ls.take i) _ && _)
  rw [List.take_succ_eq_append_getElem hi, List.all_append]; simp
theorem labs_take_false (ls : List (Int × Int)) (i : Nat) (h : labsB (ls.take i) = false) : labsB ls = false := by
  have e : List.all ls (fun a => okB a.1 a.2) = List.all (ls.take i ++ ls.drop i) (fun a => okB a.1 a.2) := by rw [List.take_append_drop]
  show List.all ls _ = false
  rw [e, List.all_append]
  have h' : List.all (ls.take i) _ = false := h
  rw [h']; rfl

set_option maxHeartbeats 2000000 in
theorem sProgOk_any {d : Nat} {T : Tr d} {lv sv : Value} {ls : List (Int × Int)} {w : World} (hL : LRep w lv ls) (hR : Rep w d sv T) (hc : cnt d T ≤ 1048576) :
    Calls Tryz.prog 13 #[.agg #[lv, sv]] w fun e w' => e = .returned (.bool (progB ls d T)) ∧ Below w.heap.size w w' := by
  obtain ⟨la, lc, rfl, hlc, hcm, hcell⟩ := hL
  obtain ⟨sa, sc, rfl⟩ := hR.slice
  have hlm : (ls.length : Int) ≤ 9223372036854775807 := by unfold maxLen at hcm; omega
  by_cases h4 : 4 < (ls.length : Int)
  · have hpr : progB ls d T = false := by
      have : ¬ ls.length ≤ 4 := by omega
      simp [progB, this]
    rw [hpr]
    go_enter Tryz.func13, Tryz.ntmps13
    go_wp2
    go_ret
    refine ⟨rfl, ?_⟩
    repeat' (first | exact Below.refl _ _ | assumption | (refine Below.drew ?_) | (refine Below.then ?_ (by assumption) ?_) | (refine Below.alloc ?_ ?_ _) | (refine Below.setCell ?_ ?_ _) | (simp; done) | (simp at *; omega) | omega)
  have HC : Hid (∀ i (hi : i < ls.length), ∃ b off k t, ls[i] = (k, t) ∧ la = some ⟨b, off, none⟩ ∧ w.cell? ⟨b, off + i * 2, none⟩ = some (.int .i64 k) ∧ w.cell? ⟨b, off + i * 2 + 1, none⟩ = some (.int .i64 t)) := (show ∀ i (hi : i < ls.length), _ by
    intro i hi
    obtain ⟨b, off, ha, h0, h1⟩ := hcell i hi
    exact ⟨b, off, _, _, rfl, ha, h0, h1⟩)
  have hP : progB ls d T = (labsB ls && (stB ls.length d 3 T && decide (cnt d T ≤ 8))) := by
    have : ls.length ≤ 4 := by omega
    simp [progB, this]
  rw [hP]
  have HR : Hid (Rep w d (.slice sa (ln d T) sc) T) := hR
  have HM : Hid (ls.length ≤ maxLen) := (show ls.length ≤ maxLen by omega)
  clear hcell hP hR
  go_enter Tryz.func13, Tryz.ntmps13
  go_wp2
  go_loopw [3] (fun j wr => ∃ (i : Nat), i ≤ ls.length ∧ j = .int .i64 i ∧ Below w.heap.size w wr ∧ wr.cell? ⟨w.heap.size, 0, none⟩ = some (.slice la ls.length lc) ∧ wr.cell? ⟨w.heap.size, 1, none⟩ = some (.slice sa (ln d T) sc) ∧ labsB (ls.take i) = true) (fun j _ => ls.length - (intOf j).toNat)
  case atStart => exact ⟨0, by omega, rfl, (Below.refl _ _).alloc (Nat.le_refl _) _, by simp, by simp, rfl⟩
  case round =>
    obtain ⟨i, hi, rfl, hbr, hpl, hps, hst⟩ := hrel
    have hsz : w.heap.size ≤ wr.heap.size := hbr.size
    by_cases hlt : i < ls.length
    · obtain ⟨b, off, k, t, hx, rfl, h0, h1⟩ := HC.out i hlt
      replace h0 := cell_later hbr h0
      replace h1 := cell_later hbr h1
      have i0' : (0 : Int) ≤ (i : Int) := by omega
      have i1' : (i : Int) < (ls.length : Int) := by omega
      have q3 := labs_take ls i hlt
      rw [hx, hst, Bool.true_and] at q3
      dsimp only at q3
      have q5 := labs_take_false ls (i + 1)
      have HQ3 : Hid _ := q3
      have HQ5 : Hid _ := q5
      clear q3 q5
      go_wp2_with fail
      go_at_call 34; refine (sLabelOk_any _ _ _).mono ?_; rintro e w1 ⟨rfl, hb1⟩
      replace hpl := cell_later hb1 hpl
      replace hps := cell_later hb1 hps
      have hbr1 : Below w.heap.size w w1 := Below.then hbr hb1 hsz
      clear h0 h1 hbr hb1
      have HO : Hid (labsB (ls.take (i + 1)) = okB k t) := HQ3.out
      clear HQ3
      generalize okB k t = res at *
      cases res
      · go_wp2
        go_ret
        exact ⟨by rw [HQ5.out HO.out]; rfl, hbr1⟩
      · go_wp2
        first
          | exact ⟨⟨i + 1, by omega, by simp, hbr1, hpl, hps, HO.out⟩, by simp [intOf]; omega⟩
          | (go_roundw
             case rel => exact ⟨i + 1, by omega, by go_num, hbr1, hpl, hps, HO.out⟩
             case measure => simp [intOf]; omega)
    · have : i = ls.length := by omega
      subst this
      rw [List.take_length] at hst
      have HST : Hid _ := hst
      clear hst
      have R1 := HR.out.below hbr
      have I1 : Hid _ := l2Steps_any la ls.length lc (.slice sa (ln d T) sc) HM.out d T _ 3 wr R1 hc (by omega) (by omega)
      go_wp2_with fail
      go_at_call 35; refine Calls.mono I1.out ?_; rintro e w1 ⟨rfl, hb1⟩
      replace hpl := cell_later hb1 hpl
      replace hps := cell_later hb1 hps
      have hbr1 : Below w.heap.size w w1 := Below.then hbr hb1 hsz
      have hs1 : w.heap.size ≤ w1.heap.size := hbr1.size
      have R2 := R1.below hb1
      clear R1 I1 hbr hb1
      cases hst : stB ls.length d 3 T
      · go_wp2
        go_ret
        exact ⟨by rw [HST.out, hst]; rfl, hbr1⟩
      · have I2 : Hid _ := count_any R2 hc
        go_wp2_with fail
        go_at_call 36; refine Calls.mono I2.out ?_; rintro e w2 ⟨rfl, hb2⟩
        have hbr2 : Below w.heap.size w w2 := Below.then hbr1 hb2 hs1
        clear hb2 hbr1 I2 hpl hps R2
        go_wp2
        go_ret
        refine ⟨?_, hbr2⟩
        have : decide ((cnt d T : Int) ≤ 8) = decide (cnt d T ≤ 8) := decide_eq_decide.2 (by omega)
        rw [HST.out, hst, ← this]; rfl

end Go.Proofs.YthcgdhlemieboaaGreat
