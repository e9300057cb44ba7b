/- What the model says of steps: whether they are in form. -/
import Derived.Test.YtpcmhkcahajdgaaSpm
import Derived.Deep.RegionHeld3
import Derived.Deep.DrawnRows
namespace Go.Proofs.Ytpcmhkcahajdgaa
open Go.RowKit
set_option linter.unusedSimpArgs false
set_option linter.unusedVariables false
attribute [local go_sem ↓] Go.wp_at_zero Go.wp_at_succ

theorem SH {w : World} {la : Option Addr} {n lc : Nat} {ss : Value} {b o : Nat} {p : Pay} {t e : Value} {wz : World}
    (h : wz.cell? ⟨w.heap.size, 0, none⟩ = some (.slice la n lc) ∧ wz.cell? ⟨w.heap.size, 1, none⟩ = some ss ∧ StepAt wz b o p t e ∧ Below w.heap.size w wz) :
    wz.drew.cell? ⟨w.heap.size, 0, none⟩ = some (.slice la n lc) ∧ wz.drew.cell? ⟨w.heap.size, 1, none⟩ = some ss ∧ StepAt wz.drew b o p t e ∧ Below w.heap.size w wz.drew :=
  ⟨h.1, h.2.1, h.2.2.1, h.2.2.2.drew⟩
theorem SB {w : World} {la : Option Addr} {n lc : Nat} {ss : Value} {b o : Nat} {p : Pay} {t e : Value} {wz wx : World}
    (h : wz.cell? ⟨w.heap.size, 0, none⟩ = some (.slice la n lc) ∧ wz.cell? ⟨w.heap.size, 1, none⟩ = some ss ∧ StepAt wz b o p t e ∧ Below w.heap.size w wz) (hb : Below wz.heap.size wz wx) :
    wx.cell? ⟨w.heap.size, 0, none⟩ = some (.slice la n lc) ∧ wx.cell? ⟨w.heap.size, 1, none⟩ = some ss ∧ StepAt wx b o p t e ∧ Below w.heap.size w wx :=
  ⟨cell_later hb h.1, cell_later hb h.2.1, h.2.2.1.on (fun _ _ h => cell_later hb h), Below.then h.2.2.2 hb h.2.2.2.size⟩

theorem l2Steps_nil (la : Option Addr) (n lc : Nat) (ss : Value) (a : Option Addr) (c : Nat) (deep : Int) (w : World) :
    Calls Try.prog 69 #[.agg #[.slice la n lc, ss], .slice a 0 c, .int .i64 deep] w fun e w' => e = .returned (.bool true) ∧ Below w.heap.size w w' := by
  go_enter Try.func69, Try.ntmps69
  go_wp2
  refine wp_loop_rounds 1 ?_
  rw [rounds_succ]
  go_wp2
  go_ret
  refine ⟨rfl, ?_⟩
  repeat' (first | exact Below.refl _ _ | assumption | (refine Below.drew ?_) | (refine Below.then ?_ (by assumption) ?_) | (refine Below.alloc ?_ ?_ _) | (refine Below.setCell ?_ ?_ _) | (simp; done) | (simp at *; omega) | omega)

theorem elB_eq (n : Int) (p : Pay) (d : Nat) (T1 T2 : Tr d) (deep : Int) :
    (decide (1 ≤ deep) && payB n p (decide (ln d T1 + ln d T2 = 0)) && (!decide (p.k = 2) || (stB n d (deep - 1) T1 && stB n d (deep - 1) T2))) =
    (decide (1 ≤ deep) && payB n p (decide (ln d T1 + ln d T2 = 0)) && (stB n d (deep - 1) T1 && stB n d (deep - 1) T2)) := by
  by_cases hk : p.k = 2
  · simp [hk]
  · cases hp : payB n p (decide (ln d T1 + ln d T2 = 0))
    · simp
    · have hz : ln d T1 + ln d T2 = 0 := by
        unfold payB at hp
        rcases Classical.em (ln d T1 + ln d T2 = 0) with h | h
        · exact h
        · rw [decide_eq_false h] at hp; simp [hk] at hp
      rw [stB_nil d _ T1 (by omega), stB_nil d _ T2 (by omega)]
      simp

set_option maxHeartbeats 4000000 in
theorem l2Steps_any (la : Option Addr) (n lc : Nat) (ss : Value) (hn : n ≤ maxLen) : ∀ (d : Nat) (T : Tr d) (s : Value) (deep : Int) (w : World), Rep w d s T → cnt d T ≤ 1048576 → 0 ≤ deep → deep ≤ 100 →
    Calls Try.prog 69 #[.agg #[.slice la n lc, ss], s, .int .i64 deep] w fun e w' => e = .returned (.bool (stB n d deep T)) ∧ Below w.heap.size w w' := by
  intro d
  induction d with
  | zero =>
    intro T s deep w h _ _ _
    obtain ⟨a, c, rfl⟩ := h
    exact l2Steps_nil la n lc ss a c deep w
  | succ d ih =>
    intro (l : List (Pay × Tr d × Tr d)) s deep w h hcn hd0 hd1
    obtain ⟨a, c, rfl, hlc, hcm, hcell⟩ := h
    have hlm : (l.length : Int) ≤ 9223372036854775807 := by unfold maxLen at hcm; omega
    have HC : Hid (∀ i (hi : i < l.length), ∃ (p : Pay) (T1 T2 : Tr d) (b off : Nat) (ta : Option Addr) (tc : Nat) (ea : Option Addr) (ec : Nat), l[i] = (p, T1, T2) ∧ a = some ⟨b, off, none⟩ ∧ StepAt w b (off + i * 8) p (.slice ta (ln d T1) tc) (.slice ea (ln d T2) ec) ∧ Rep w d (.slice ta (ln d T1) tc) T1 ∧ Rep w d (.slice ea (ln d T2) ec) T2) := (show ∀ i (hi : i < l.length), _ by
      intro i hi
      obtain ⟨b, off, t, e, ha, hS, r1, r2⟩ := hcell i hi
      obtain ⟨ta, tc, rfl⟩ := r1.slice
      obtain ⟨ea, ec, rfl⟩ := r2.slice
      exact ⟨_, _, _, b, off, ta, tc, ea, ec, rfl, ha, hS, r1, r2⟩)
    have IH : Hid _ := ih
    have HN : Hid (n ≤ maxLen) := hn
    clear ih hcell
    go_enter Try.func69, Try.ntmps69
    go_wp2
    go_loopw [7] (fun j wr => ∃ (i : Nat), i ≤ l.length ∧ j = .int .i64 i ∧ Below w.heap.size w wr ∧ wr.cell? ⟨w.heap.size, 0, none⟩ = some (.slice la n lc) ∧ wr.cell? ⟨w.heap.size, 1, none⟩ = some ss ∧
        stB n (d + 1) deep (l.take i : List (Pay × Tr d × Tr d)) = true) (fun j _ => l.length - (intOf j).toNat)
    case atStart => exact ⟨0, by omega, rfl, (Below.refl _ _).alloc (Nat.le_refl _) _, by simp, by simp, rfl⟩
    case round =>
      obtain ⟨i, hi, rfl, hbr, hpl, hps, hst⟩ := hrel
      by_cases hlt : i < l.length
      · obtain ⟨p, T1, T2, b, off, ta, tc, ea, ec, hx, rfl, hS, r1, r2⟩ := HC.out i hlt
        have hSt := hS.on (w' := wr) (fun a v h => cell_later hbr h)
        have i0' : (0 : Int) ≤ (i : Int) := by omega
        have i1' : (i : Int) < (l.length : Int) := by omega
        have q1 := cnt_take l i hlt
        have q3 := stB_take (n := n) (deep := deep) l i hlt
        rw [hx] at q1 q3
        dsimp only at q1 q3
        rw [hst, Bool.true_and] at q3
        have q4 := cnt_take_le l (i + 1)
        have q5 := stB_take_false (n := n) (deep := deep) l (i + 1)
        have l1 := ln_le_cnt d T1
        have l2 := ln_le_cnt d T2
        have c1 : Hid (∀ wx, Below w.heap.size w wx → Calls Try.prog 109 #[.agg #[.slice la n lc, ss], .agg #[.int .i64 p.k, .int .i64 p.v, .int .i64 p.vk, .int .i64 p.va, .int .i64 p.vb, .int .i64 p.h, .slice ta (ln d T1) tc, .slice ea (ln d T2) ec], .int .i64 deep] wx
            fun e w' => e = .returned (.bool (decide (1 ≤ deep) && payB n p (decide (ln d T1 + ln d T2 = 0)) && (stB n d (deep - 1) T1 && stB n d (deep - 1) T2))) ∧ Below wx.heap.size wx w') := (show ∀ wx, _ by
          intro wx hwx
          rw [← elB_eq]
          exact l2Step_of la n lc ss p ta ea _ tc _ ec deep _ _ wx HN.out hd1 (fun h1 wy hy => IH.out T1 _ (deep - 1) wy (r1.below (hwx.trans (hy.mono hwx.size))) (by omega) (by omega) (by omega)) (fun h1 wy hy => IH.out T2 _ (deep - 1) wy (r2.below (hwx.trans (hy.mono hwx.size))) (by omega) (by omega) (by omega)) (by omega) (by omega))
        clear q1 q4 hS
        generalize hres : (decide (1 ≤ deep) && payB n p (decide (ln d T1 + ln d T2 = 0)) && (stB n d (deep - 1) T1 && stB n d (deep - 1) T2)) = res at c1 q3
        clear hres
        have HQ3 : Hid _ := q3
        have HQ5 : Hid _ := q5
        clear q3 q5 r1 r2
        go_wp2_with fail
        refine wp_region_held (S := (fun wz => wz.cell? ⟨w.heap.size, 0, none⟩ = some (.slice la n lc) ∧ wz.cell? ⟨w.heap.size, 1, none⟩ = some ss ∧ StepAt wz b (off + i * 8) p (.slice ta (ln d T1) tc) (.slice ea (ln d T2) ec) ∧ Below w.heap.size w wz)) (by kernel_rfl) ?_
        change wpAnyH _ _ _ _ _ _ _ _ (World.drew _)
        have hHeld := SH ⟨hpl, hps, hSt, hbr⟩
        refine' wpAnyH_take (i := 0) (v := .agg #[.slice la n lc, ss]) rfl (by kernel_rfl) (by kernel_rfl) (by kernel_rfl) (fun _ _ _ h => h) (Or.inl ⟨by rfl, ?hy1⟩) hHeld ?hn1
        case hy1 => (intro wz hSw; obtain ⟨k0, k1, _, _⟩ := hSw; go_simp)
        try simp only [List.getElem_toArray, List.getElem_cons_zero, List.getElem_cons_succ, Act.put, List.setIfInBounds_toArray, List.set_cons_zero, List.set_cons_succ]
        refine' wpAnyH_take (i := 1) (v := _) rfl (by kernel_rfl) (by kernel_rfl) (by kernel_rfl) (fun _ _ _ h => h) (Or.inl ⟨by rfl, ?hy2⟩) hHeld ?hn2
        case hy2 => (intro wz hSw; (try dsimp only at hSw); go_simp; first | done | with_reducible rfl)
        try simp only [List.getElem_toArray, List.getElem_cons_zero, List.getElem_cons_succ, Act.put, List.setIfInBounds_toArray, List.set_cons_zero, List.set_cons_succ]
        refine' wpAnyH_take (i := 2) (v := _) rfl (by kernel_rfl) (by kernel_rfl) (by kernel_rfl) (fun _ _ _ h => h) (Or.inl ⟨by rfl, ?hy3⟩) hHeld ?hn3
        case hy3 => (intro wz hSw; (try dsimp only at hSw); go_simp; first | done | with_reducible rfl)
        try simp only [List.getElem_toArray, List.getElem_cons_zero, List.getElem_cons_succ, Act.put, List.setIfInBounds_toArray, List.set_cons_zero, List.set_cons_succ]
        refine' wpAnyH_take (i := 3) (v := _) rfl (by kernel_rfl) (by kernel_rfl) (by kernel_rfl) (fun _ _ _ h => h) (Or.inl ⟨by rfl, ?hy4⟩) hHeld ?hn4
        case hy4 => (intro wz hSw; (try dsimp only at hSw); go_simp; first | done | with_reducible rfl)
        try simp only [List.getElem_toArray, List.getElem_cons_zero, List.getElem_cons_succ, Act.put, List.setIfInBounds_toArray, List.set_cons_zero, List.set_cons_succ]
        refine' wpAnyH_take (i := 4) (v := .agg #[.int .i64 p.k, .int .i64 p.v, .int .i64 p.vk, .int .i64 p.va, .int .i64 p.vb, .int .i64 p.h, .slice ta (ln d T1) tc, .slice ea (ln d T2) ec]) rfl (by kernel_rfl) (by kernel_rfl) (by kernel_rfl) (fun _ _ _ h => h) (Or.inl ⟨by rfl, ?hy5⟩) hHeld ?hn5
        case hy5 => (intro wz hSw; obtain ⟨_, _, ⟨k0, k1, k2, k3, k4, k5, k6, k7⟩, _⟩ := hSw; go_simp)
        try simp only [List.getElem_toArray, List.getElem_cons_zero, List.getElem_cons_succ, Act.put, List.setIfInBounds_toArray, List.set_cons_zero, List.set_cons_succ]
        refine' wpAnyH_take (i := 5) (v := _) rfl (by kernel_rfl) (by kernel_rfl) (by kernel_rfl) (fun _ _ _ h => h) (Or.inl ⟨by rfl, ?hy6⟩) hHeld ?hn6
        case hy6 => (intro wz hSw; (try dsimp only at hSw); go_simp; first | done | with_reducible rfl)
        try simp only [List.getElem_toArray, List.getElem_cons_zero, List.getElem_cons_succ, Act.put, List.setIfInBounds_toArray, List.set_cons_zero, List.set_cons_succ]
        refine wpAnyH_ready (rs := [6]) (by kernel_rfl) (by simp) ?_
        refine AllReadyH.cons rfl (fun K hK => ?_) AllReadyH.nil
        go_simp
        refine (c1.out _ hHeld.2.2.2).mono ?_; rintro e' w9 ⟨rfl, hbx⟩
        refine hK.out _ _ (SB hHeld hbx) (fun hHeld => ?_)
        clear hK K
        refine' wpAnyH_take (i := 7) (v := _) rfl (by kernel_rfl) (by kernel_rfl) (by kernel_rfl) (fun _ _ _ h => h) (Or.inl ⟨by rfl, ?hy7⟩) hHeld ?hn7
        case hy7 => (intro wz hSw; (try dsimp only at hSw); go_simp; first | done | with_reducible rfl)
        try simp only [List.getElem_toArray, List.getElem_cons_zero, List.getElem_cons_succ, Act.put, List.setIfInBounds_toArray, List.set_cons_zero, List.set_cons_succ]
        refine wpAnyH_done (by kernel_rfl) ?_ _
        obtain ⟨hp0, hp1, _, hB9⟩ := hHeld
        cases res
        · go_wp2
          go_ret
          exact ⟨by rw [HQ5.out HQ3.out]; rfl, hB9⟩
        · go_wp2
          go_roundw
          case rel => exact ⟨i + 1, by omega, by go_num, hB9, hp0, hp1, HQ3.out⟩
          case measure => simp [intOf]; omega
      · have : i = l.length := by omega
        subst this
        rw [List.take_length] at hst
        have HST : Hid _ := hst
        have HB : Hid _ := hbr
        clear hst hbr
        go_wp2
        go_ret
        exact ⟨by rw [HST.out]; rfl, HB.out⟩

end Go.Proofs.Ytpcmhkcahajdgaa
