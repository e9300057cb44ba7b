/- What the model says of a step: whether it is in form. -/
import Derived.Test.YtpcmhkcahajdgaaSpl
namespace Go.Proofs.Ytpcmhkcahajdgaa
open Go.RowKit
set_option linter.unusedSimpArgs false
set_option linter.unusedVariables false

theorem zz (a b : Nat) : ((a : Int) + (b : Int) == 0) = (decide (a = 0) && decide (b = 0)) := by
  by_cases ha : a = 0 <;> by_cases hb : b = 0 <;> simp [ha, hb] <;> omega

set_option maxHeartbeats 4000000 in
theorem l2Step_of (la : Option Addr) (n lc : Nat) (ss : Value) (p : Pay) (ta ea : Option Addr) (lt tc le ec : Nat) (deep : Int) (B1 B2 : Bool) (w : World) (hn : n ≤ maxLen) (hd : deep ≤ 100)
    (c1 : 1 ≤ deep → ∀ wx, Below w.heap.size w wx → Calls Try.prog 69 #[.agg #[.slice la n lc, ss], .slice ta lt tc, .int .i64 (deep - 1)] wx fun e w' => e = .returned (.bool B1) ∧ Below wx.heap.size wx w')
    (c2 : 1 ≤ deep → ∀ wx, Below w.heap.size w wx → Calls Try.prog 69 #[.agg #[.slice la n lc, ss], .slice ea le ec, .int .i64 (deep - 1)] wx fun e w' => e = .returned (.bool B2) ∧ Below wx.heap.size wx w')
    (hlt : lt ≤ 1048576) (hle : le ≤ 1048576) :
    Calls Try.prog 109 #[.agg #[.slice la n lc, ss], .agg #[.int .i64 p.k, .int .i64 p.v, .int .i64 p.vk, .int .i64 p.va, .int .i64 p.vb, .int .i64 p.h, .slice ta lt tc, .slice ea le ec], .int .i64 deep] w
      fun e w' => e = .returned (.bool (decide (1 ≤ deep) && payB n p (decide (lt + le = 0)) && (!decide (p.k = 2) || (B1 && B2)))) ∧ Below w.heap.size w w' := by
  have hN : Hid (n ≤ maxLen) := hn
  clear hn
  obtain ⟨k, v, vk, va, vb, h⟩ := p
  dsimp only
  by_cases hd1 : 1 ≤ deep
  case neg =>
    have : decide (1 ≤ deep) = false := by simpa using hd1
    rw [this]
    have hlt : deep < 1 := by omega
    go_enter Try.func109, Try.ntmps109
    go_wp2
    go_ret
    refine ⟨rfl, ?_⟩
    repeat' (first | exact Below.refl _ _ | assumption | (refine Below.drew ?_) | (refine Below.then ?_ (by assumption) ?_) | (refine Below.alloc ?_ ?_ _) | (refine Below.setCell ?_ ?_ _) | (simp; done) | (simp at *; omega) | omega)
  have hd2 : ¬ deep < 1 := by omega
  cases hv : vIn n v
  · go_enter Try.func109, Try.ntmps109
    go_wp2_with (first | (go_at_call 130; refine (l2Var_any _ _ _ _ _ _ hN.out).mono ?_; rintro e w2 ⟨rfl, hb2⟩; rw [hv]; obtain ⟨hc2, hf2⟩ := bcell hb2; have hs2 := hb2.size))
    go_ret
    refine ⟨by simp [payB, hv], ?_⟩
    clear hc2 hf2
    repeat' (first | exact Below.refl _ _ | assumption | (refine Below.drew ?_) | (refine Below.then ?_ (by assumption) ?_) | (refine Below.alloc ?_ ?_ _) | (refine Below.setCell ?_ ?_ _) | (simp; done) | (simp at *; omega) | omega)
  have hz : IntKind.i64.wrap ((lt : Int) + (le : Int)) = lt + le := w64 _ (by omega)
  have hwd := w64 (deep - 1) (by omega)
  have hD : decide (1 ≤ deep) = true := by simpa using hd1
  have V0 : vIn n v = true := hv
  clear hv
  have split : (vk = 0 ∧ va = 0 ∧ vb = 0) ∨ (¬ vk = 0) ∨ (vk = 0 ∧ ¬ va = 0) ∨ (vk = 0 ∧ va = 0 ∧ ¬ vb = 0) := by omega
  by_cases h1 : k = 1
  · subst h1
    cases hB : valB n vk va vb
    · rcases split with ⟨rfl, rfl, rfl⟩ | s1 | ⟨rfl, s1⟩ | ⟨rfl, rfl, s1⟩
      all_goals
        go_enter Try.func109, Try.ntmps109
        go_wp2_with fail
        go_at_call 130; refine (l2Var_any _ _ _ _ _ _ hN.out).mono ?_; rintro e w2 ⟨rfl, hb2⟩; rw [V0]; obtain ⟨hc2, hf2⟩ := bcell hb2; have hs2 := hb2.size; have hz2 : w.heap.size + 1 < w2.heap.size := (by have := hb2.size; simp at this; omega); have hy2 : w.heap.size < w2.heap.size := by omega
        go_wp2_with fail
        go_at_call 131; refine (l2Val_any _ _ _ _ _ _ _ _ hN.out).mono ?_; rintro e w3 ⟨rfl, hb3⟩; rw [hB]; obtain ⟨hc3, hf3⟩ := bcell hb3; have hs3 := hb3.size; have hz3 : w.heap.size + 1 < w3.heap.size := (by have := hb3.size; omega); have hy3 : w.heap.size < w3.heap.size := by omega
        go_wp2
        go_ret
        refine ⟨by simp [payB, V0, hB], ?_⟩
        clear hc2 hf2 hc3 hf3
        repeat' (first | exact Below.refl _ _ | assumption | (refine Below.drew ?_) | (refine Below.then ?_ (by assumption) ?_) | (refine Below.alloc ?_ ?_ _) | (refine Below.setCell ?_ ?_ _) | (simp; done) | (simp at *; omega) | omega)
    · have s1 : ¬ vk = 0 := by rintro rfl; simp [valB] at hB
      by_cases h0 : h = 0
      · subst h0
        go_enter Try.func109, Try.ntmps109
        go_wp2_with fail
        go_at_call 130; refine (l2Var_any _ _ _ _ _ _ hN.out).mono ?_; rintro e w2 ⟨rfl, hb2⟩; rw [V0]; obtain ⟨hc2, hf2⟩ := bcell hb2; have hs2 := hb2.size; have hz2 : w.heap.size + 1 < w2.heap.size := (by have := hb2.size; simp at this; omega); have hy2 : w.heap.size < w2.heap.size := by omega
        go_wp2_with fail
        go_at_call 131; refine (l2Val_any _ _ _ _ _ _ _ _ hN.out).mono ?_; rintro e w3 ⟨rfl, hb3⟩; rw [hB]; obtain ⟨hc3, hf3⟩ := bcell hb3; have hs3 := hb3.size; have hz3 : w.heap.size + 1 < w3.heap.size := (by have := hb3.size; omega); have hy3 : w.heap.size < w3.heap.size := by omega
        go_wp2
        go_ret
        refine ⟨by simp [payB, V0, hB, hD, zz], ?_⟩
        clear hc2 hf2 hc3 hf3
        repeat' (first | exact Below.refl _ _ | assumption | (refine Below.drew ?_) | (refine Below.then ?_ (by assumption) ?_) | (refine Below.alloc ?_ ?_ _) | (refine Below.setCell ?_ ?_ _) | (simp; done) | (simp at *; omega) | omega)
      · go_enter Try.func109, Try.ntmps109
        go_wp2_with fail
        go_at_call 130; refine (l2Var_any _ _ _ _ _ _ hN.out).mono ?_; rintro e w2 ⟨rfl, hb2⟩; rw [V0]; obtain ⟨hc2, hf2⟩ := bcell hb2; have hs2 := hb2.size; have hz2 : w.heap.size + 1 < w2.heap.size := (by have := hb2.size; simp at this; omega); have hy2 : w.heap.size < w2.heap.size := by omega
        go_wp2_with fail
        go_at_call 131; refine (l2Val_any _ _ _ _ _ _ _ _ hN.out).mono ?_; rintro e w3 ⟨rfl, hb3⟩; rw [hB]; obtain ⟨hc3, hf3⟩ := bcell hb3; have hs3 := hb3.size; have hz3 : w.heap.size + 1 < w3.heap.size := (by have := hb3.size; omega); have hy3 : w.heap.size < w3.heap.size := by omega
        go_wp2
        go_ret
        refine ⟨by simp [payB, V0, hB, h0], ?_⟩
        clear hc2 hf2 hc3 hf3
        repeat' (first | exact Below.refl _ _ | assumption | (refine Below.drew ?_) | (refine Below.then ?_ (by assumption) ?_) | (refine Below.alloc ?_ ?_ _) | (refine Below.setCell ?_ ?_ _) | (simp; done) | (simp at *; omega) | omega)
  by_cases h3 : k = 3
  · subst h3
    rcases split with ⟨rfl, rfl, rfl⟩ | split
    · cases hH : (decide (0 ≤ h) && decide (h ≤ 2))
      all_goals
        have hH' : vIn 3 h = _ := (vIn_le 3 h).trans hH
        go_enter Try.func109, Try.ntmps109
        go_wp2_with fail
        go_at_call 130; refine (l2Var_any _ _ _ _ _ _ hN.out).mono ?_; rintro e w2 ⟨rfl, hb2⟩; rw [V0]; obtain ⟨hc2, hf2⟩ := bcell hb2; have hs2 := hb2.size; have hz2 : w.heap.size + 1 < w2.heap.size := (by have := hb2.size; simp at this; omega); have hy2 : w.heap.size < w2.heap.size := by omega
        go_wp2_with fail
        go_at_call 72; refine (l6In_any _ _ _ _).mono ?_; rintro e w3 ⟨rfl, hw3⟩; subst w3; rw [hH]
        go_wp2
        go_ret
        refine ⟨by simp [payB, nonV, V0, hH', hD, zz], ?_⟩
        clear hc2 hf2
        repeat' (first | exact Below.refl _ _ | assumption | (refine Below.drew ?_) | (refine Below.then ?_ (by assumption) ?_) | (refine Below.alloc ?_ ?_ _) | (refine Below.setCell ?_ ?_ _) | (simp; done) | (simp at *; omega) | omega)
    · have hnV : ∀ k v h, nonV ⟨k, v, vk, va, vb, h⟩ = false := by intro k v h; simp [nonV]; omega
      rcases split with s1 | ⟨rfl, s1⟩ | ⟨rfl, rfl, s1⟩
      all_goals
        go_enter Try.func109, Try.ntmps109
        go_wp2_with fail
        go_at_call 130; refine (l2Var_any _ _ _ _ _ _ hN.out).mono ?_; rintro e w2 ⟨rfl, hb2⟩; rw [V0]; obtain ⟨hc2, hf2⟩ := bcell hb2; have hs2 := hb2.size; have hz2 : w.heap.size + 1 < w2.heap.size := (by have := hb2.size; simp at this; omega); have hy2 : w.heap.size < w2.heap.size := by omega
        go_wp2
        go_ret
        refine ⟨by simp [payB, V0, hnV], ?_⟩
        clear hc2 hf2
        repeat' (first | exact Below.refl _ _ | assumption | (refine Below.drew ?_) | (refine Below.then ?_ (by assumption) ?_) | (refine Below.alloc ?_ ?_ _) | (refine Below.setCell ?_ ?_ _) | (simp; done) | (simp at *; omega) | omega)
  by_cases h2 : k = 2
  · subst h2
    rcases split with ⟨rfl, rfl, rfl⟩ | split
    · by_cases h0 : h = 0
      · subst h0
        have C1 : Hid _ := c1 hd1
        have C2 : Hid _ := c2 hd1
        clear c1 c2
        cases B1
        · go_enter Try.func109, Try.ntmps109
          go_wp2_with fail
          go_at_call 130; refine (l2Var_any _ _ _ _ _ _ hN.out).mono ?_; rintro e w2 ⟨rfl, hb2⟩; rw [V0]; obtain ⟨hc2, hf2⟩ := bcell hb2; have hs2 := hb2.size; have hz2 : w.heap.size + 1 < w2.heap.size := (by have := hb2.size; simp at this; omega); have hy2 : w.heap.size < w2.heap.size := by omega
          go_wp2_with fail
          go_at_call 69; refine (C1.out _ (by clear hc2 hf2; repeat' (first | exact Below.refl _ _ | assumption | (refine Below.drew ?_) | (refine Below.then ?_ (by assumption) ?_) | (refine Below.alloc ?_ ?_ _) | (refine Below.setCell ?_ ?_ _) | (simp; done) | (simp at *; omega) | omega))).mono ?_; rintro e w3 ⟨rfl, hb3⟩
          go_wp2
          go_ret
          refine ⟨by simp [payB, nonV, V0, hD], ?_⟩
          clear hc2 hf2
          repeat' (first | exact Below.refl _ _ | assumption | (refine Below.drew ?_) | (refine Below.then ?_ (by assumption) ?_) | (refine Below.alloc ?_ ?_ _) | (refine Below.setCell ?_ ?_ _) | (simp; done) | (simp at *; omega) | omega)
        · go_enter Try.func109, Try.ntmps109
          go_wp2_with fail
          go_at_call 130; refine (l2Var_any _ _ _ _ _ _ hN.out).mono ?_; rintro e w2 ⟨rfl, hb2⟩; rw [V0]; obtain ⟨hc2, hf2⟩ := bcell hb2; have hs2 := hb2.size; have hz2 : w.heap.size + 1 < w2.heap.size := (by have := hb2.size; simp at this; omega); have hy2 : w.heap.size < w2.heap.size := by omega
          go_wp2_with fail
          go_at_call 69; refine (C1.out _ (by clear hc2 hf2; repeat' (first | exact Below.refl _ _ | assumption | (refine Below.drew ?_) | (refine Below.then ?_ (by assumption) ?_) | (refine Below.alloc ?_ ?_ _) | (refine Below.setCell ?_ ?_ _) | (simp; done) | (simp at *; omega) | omega))).mono ?_; rintro e w3 ⟨rfl, hb3⟩; obtain ⟨hc3, hf3⟩ := bcell hb3; have hs3 := hb3.size; have hz3 : w.heap.size + 1 < w3.heap.size := (by have := hb3.size; omega); have hy3 : w.heap.size < w3.heap.size := by omega
          go_wp2_with fail
          go_at_call 69; refine (C2.out _ (by clear hc2 hf2 hc3 hf3; repeat' (first | exact Below.refl _ _ | assumption | (refine Below.drew ?_) | (refine Below.then ?_ (by assumption) ?_) | (refine Below.alloc ?_ ?_ _) | (refine Below.setCell ?_ ?_ _) | (simp; done) | (simp at *; omega) | omega))).mono ?_; rintro e w4 ⟨rfl, hb4⟩
          go_wp2
          go_ret
          refine ⟨by simp [payB, nonV, V0, hD], ?_⟩
          clear hc2 hf2 hc3 hf3
          repeat' (first | exact Below.refl _ _ | assumption | (refine Below.drew ?_) | (refine Below.then ?_ (by assumption) ?_) | (refine Below.alloc ?_ ?_ _) | (refine Below.setCell ?_ ?_ _) | (simp; done) | (simp at *; omega) | omega)
      · go_enter Try.func109, Try.ntmps109
        go_wp2_with fail
        go_at_call 130; refine (l2Var_any _ _ _ _ _ _ hN.out).mono ?_; rintro e w2 ⟨rfl, hb2⟩; rw [V0]; obtain ⟨hc2, hf2⟩ := bcell hb2; have hs2 := hb2.size; have hz2 : w.heap.size + 1 < w2.heap.size := (by have := hb2.size; simp at this; omega); have hy2 : w.heap.size < w2.heap.size := by omega
        go_wp2
        go_ret
        refine ⟨by simp [payB, V0, h0], ?_⟩
        clear hc2 hf2
        repeat' (first | exact Below.refl _ _ | assumption | (refine Below.drew ?_) | (refine Below.then ?_ (by assumption) ?_) | (refine Below.alloc ?_ ?_ _) | (refine Below.setCell ?_ ?_ _) | (simp; done) | (simp at *; omega) | omega)
    · have hnV : ∀ k v h, nonV ⟨k, v, vk, va, vb, h⟩ = false := by intro k v h; simp [nonV]; omega
      rcases split with s1 | ⟨rfl, s1⟩ | ⟨rfl, rfl, s1⟩
      all_goals
        go_enter Try.func109, Try.ntmps109
        go_wp2_with fail
        go_at_call 130; refine (l2Var_any _ _ _ _ _ _ hN.out).mono ?_; rintro e w2 ⟨rfl, hb2⟩; rw [V0]; obtain ⟨hc2, hf2⟩ := bcell hb2; have hs2 := hb2.size; have hz2 : w.heap.size + 1 < w2.heap.size := (by have := hb2.size; simp at this; omega); have hy2 : w.heap.size < w2.heap.size := by omega
        go_wp2
        go_ret
        refine ⟨by simp [payB, V0, hnV], ?_⟩
        clear hc2 hf2
        repeat' (first | exact Below.refl _ _ | assumption | (refine Below.drew ?_) | (refine Below.then ?_ (by assumption) ?_) | (refine Below.alloc ?_ ?_ _) | (refine Below.setCell ?_ ?_ _) | (simp; done) | (simp at *; omega) | omega)
  · rcases split with ⟨rfl, rfl, rfl⟩ | s1 | ⟨rfl, s1⟩ | ⟨rfl, rfl, s1⟩
    all_goals
      go_enter Try.func109, Try.ntmps109
      go_wp2_with fail
      go_at_call 130; refine (l2Var_any _ _ _ _ _ _ hN.out).mono ?_; rintro e w2 ⟨rfl, hb2⟩; rw [V0]; obtain ⟨hc2, hf2⟩ := bcell hb2; have hs2 := hb2.size; have hz2 : w.heap.size + 1 < w2.heap.size := (by have := hb2.size; simp at this; omega); have hy2 : w.heap.size < w2.heap.size := by omega
      go_wp2
      go_ret
      refine ⟨by simp [payB, V0, h1, h2, h3], ?_⟩
      clear hc2 hf2
      repeat' (first | exact Below.refl _ _ | assumption | (refine Below.drew ?_) | (refine Below.then ?_ (by assumption) ?_) | (refine Below.alloc ?_ ?_ _) | (refine Below.setCell ?_ ?_ _) | (simp; done) | (simp at *; omega) | omega)

end Go.Proofs.Ytpcmhkcahajdgaa
