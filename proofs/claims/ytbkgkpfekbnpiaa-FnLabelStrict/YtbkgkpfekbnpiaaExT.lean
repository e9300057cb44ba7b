/- What LabelText writes, of the program and of the model; its exact law, walked. -/
import Derived.Test.YtbkgkpfekbnpiaaTxt
import Derived.Test.YtbkgkpfekbnpiaaOdd
namespace Go.Proofs.Ytbkgkpfekbnpiaa
open Go.RowKit
set_option linter.unusedSimpArgs false
set_option linter.unusedVariables false
attribute [local go_sem ↓] Go.wp_at_zero Go.wp_at_succ

/-- The text of a label. -/
def textOf (k t : Int) : ByteArray := if okB k t then strOfNums (sayTo k 3) ++ { data := #[33] } ++ strOfNums (sayTo t 3) else { data := #[] }
theorem ST_later {N : Nat} {w w1 w2 : World} {v0 v1 : Value} (hb : Below w1.heap.size w1 w2) (h : w1.cell? ⟨N, 0, none⟩ = some v0 ∧ w1.cell? ⟨N, 1, none⟩ = some v1 ∧ Below w.heap.size w w1) :
    w2.cell? ⟨N, 0, none⟩ = some v0 ∧ w2.cell? ⟨N, 1, none⟩ = some v1 ∧ Below w.heap.size w w2 := ⟨cell_later hb h.1, cell_later hb h.2.1, below_then2 hb h.2.2⟩
theorem ST_drew {N : Nat} {w w1 : World} {v0 v1 : Value} (h : w1.cell? ⟨N, 0, none⟩ = some v0 ∧ w1.cell? ⟨N, 1, none⟩ = some v1 ∧ Below w.heap.size w w1) :
    w1.drew.cell? ⟨N, 0, none⟩ = some v0 ∧ w1.drew.cell? ⟨N, 1, none⟩ = some v1 ∧ Below w.heap.size w w1.drew := ⟨h.1, h.2.1, h.2.2.drew⟩

set_option maxHeartbeats 2000000 in
theorem labelText_any (k t : Int) (w : World) :
    Calls Try.prog 29 #[.agg #[.int .i64 k, .int .i64 t]] w fun e w' => e = .returned (.string (textOf k t)) ∧ Below w.heap.size w w' := by
  unfold textOf
  cases ha : okB k t
  · go_enter Try.func29, Try.ntmps29
    go_wp2_with fail
    refine (labelOk_any _ _ _).mono ?_; rintro e w1 ⟨rfl, hb1⟩
    go_wp2
    go_ret
    refine ⟨rfl, ?_⟩
    repeat' (first | exact Below.refl _ _ | assumption | (refine Below.drew ?_) | (refine Below.then ?_ (by assumption) ?_) | (refine Below.alloc ?_ ?_ _) | (refine Below.setCell ?_ ?_ _) | (simp; done) | (simp at *; omega) | omega)
  · have ia := okB_iff.1 ha
    have l1 := sayTo_len k 3
    have l2 := sayTo_len t 3
    have hz1 : ¬ 9223372036854775807 < (strOfNums (sayTo k 3)).size + 1 := by
      rw [strOfNums_size]; omega
    have hz2 : ¬ 9223372036854775807 < (strOfNums (sayTo k 3)).size + 1 + (strOfNums (sayTo t 3)).size := by
      rw [strOfNums_size, strOfNums_size]; omega
    go_enter Try.func29, Try.ntmps29
    go_wp2_with fail
    have PX := Pair.new w k t 24
    refine (labelOk_any _ _ _).mono ?_; rintro e w1 ⟨rfl, hb1⟩
    replace PX := PX.below hb1
    have hSt := And.intro PX.1 (And.intro PX.2.1 (below_then2 hb1 ((Below.refl _ _).alloc (Nat.le_refl w.heap.size) (.cells #[.int .i64 k, .int .i64 t] 24))))
    clear PX hb1
    go_wp2_with fail
    refine wp_region_held (S := (fun wz => wz.cell? ⟨w.heap.size, 0, none⟩ = some (.int .i64 k) ∧ wz.cell? ⟨w.heap.size, 1, none⟩ = some (.int .i64 t) ∧ Below w.heap.size w wz)) (by kernel_rfl) ?_
    change wpAnyH _ _ _ _ _ _ _ _ (World.drew _)
    have hHeld := ST_drew hSt
    refine' wpAnyH_take (i := 0) (v := _) rfl (by kernel_rfl) (by kernel_rfl) (by kernel_rfl) (fun _ _ _ h => h) (Or.inl ⟨by rfl, ?hy1⟩) hHeld ?hn1
    case hy1 => (intro wz hSw; (try dsimp only at hSw); go_simp; first | done | with_reducible rfl)
    try simp only [List.getElem_toArray, List.getElem_cons_zero, List.getElem_cons_succ, Act.put, List.setIfInBounds_toArray, List.set_cons_zero, List.set_cons_succ]
    refine' wpAnyH_take (i := 4) (v := _) rfl (by kernel_rfl) (by kernel_rfl) (by kernel_rfl) (fun _ _ _ h => h) (Or.inl ⟨by rfl, ?hy2⟩) hHeld ?hn2
    case hy2 => (intro wz hSw; (try dsimp only at hSw); go_simp; first | done | with_reducible rfl)
    try simp only [List.getElem_toArray, List.getElem_cons_zero, List.getElem_cons_succ, Act.put, List.setIfInBounds_toArray, List.set_cons_zero, List.set_cons_succ]
    refine wpAnyH_ready (rs := [1]) (by kernel_rfl) (by simp) ?_
    refine AllReadyH.cons rfl (fun K hK => ?_) AllReadyH.nil
    go_simp
    refine (knowers_any _ _ _).mono ?_; rintro e w9 ⟨rfl, hbx⟩
    refine hK.out _ _ (ST_later hbx hHeld) (fun hHeld => ?_)
    clear hK K
    refine wpAnyH_ready (rs := [2]) (by kernel_rfl) (by simp) ?_
    refine AllReadyH.cons rfl (fun K hK => ?_) AllReadyH.nil
    go_simp
    refine (text_any _ _ (by omega) (by omega)).mono ?_; rintro e w9 ⟨rfl, hbx⟩
    refine hK.out _ _ (ST_later hbx hHeld) (fun hHeld => ?_)
    clear hK K
    refine' wpAnyH_take (i := 3) (v := _) rfl (by kernel_rfl) (by kernel_rfl) (by kernel_rfl) (fun _ _ _ h => h) (Or.inl ⟨by rfl, ?hy3⟩) hHeld ?hn3
    case hy3 => (intro wz hSw; (try dsimp only at hSw); go_simp; first | done | with_reducible rfl)
    try simp only [List.getElem_toArray, List.getElem_cons_zero, List.getElem_cons_succ, Act.put, List.setIfInBounds_toArray, List.set_cons_zero, List.set_cons_succ]
    refine wpAnyH_ready (rs := [5]) (by kernel_rfl) (by simp) ?_
    refine AllReadyH.cons rfl (fun K hK => ?_) AllReadyH.nil
    go_simp
    refine (trusters_any _ _ _).mono ?_; rintro e w9 ⟨rfl, hbx⟩
    refine hK.out _ _ (ST_later hbx hHeld) (fun hHeld => ?_)
    clear hK K
    refine wpAnyH_ready (rs := [6]) (by kernel_rfl) (by simp) ?_
    refine AllReadyH.cons rfl (fun K hK => ?_) AllReadyH.nil
    go_simp
    refine (text_any _ _ (by omega) (by omega)).mono ?_; rintro e w9 ⟨rfl, hbx⟩
    refine hK.out _ _ (ST_later hbx hHeld) (fun hHeld => ?_)
    clear hK K
    refine' wpAnyH_take (i := 7) (v := _) rfl (by kernel_rfl) (by kernel_rfl) (by kernel_rfl) (fun _ _ _ h => h) (Or.inl ⟨by rfl, ?hy4⟩) hHeld ?hn4
    case hy4 => (intro wz hSw; (try dsimp only at hSw); go_simp; first | done | with_reducible rfl)
    try simp only [List.getElem_toArray, List.getElem_cons_zero, List.getElem_cons_succ, Act.put, List.setIfInBounds_toArray, List.set_cons_zero, List.set_cons_succ]
    refine' wpAnyH_take (i := 8) (v := _) rfl (by kernel_rfl) (by kernel_rfl) (by kernel_rfl) (fun _ _ _ h => h) (Or.inl ⟨by rfl, ?hy5⟩) hHeld ?hn5
    case hy5 => (intro wz hSw; (try dsimp only at hSw); go_simp; first | done | with_reducible rfl)
    try simp only [List.getElem_toArray, List.getElem_cons_zero, List.getElem_cons_succ, Act.put, List.setIfInBounds_toArray, List.set_cons_zero, List.set_cons_succ]
    refine wpAnyH_done (by kernel_rfl) ?_ _
    go_wp2
    go_ret
    exact ⟨rfl, hHeld.2.2⟩

set_option maxHeartbeats 2000000 in
theorem sLabelText_any (k t : Int) (w : World) :
    Calls Try.prog 30 #[.agg #[.int .i64 k, .int .i64 t]] w fun e w' => e = .returned (.string (textOf k t)) ∧ Below w.heap.size w w' := by
  unfold textOf
  cases ha : okB k t
  · go_enter Try.func30, Try.ntmps30
    go_wp2_with fail
    refine (sLabelOk_any _ _ _).mono ?_; rintro e w1 ⟨rfl, hb1⟩
    go_wp2
    go_ret
    refine ⟨rfl, ?_⟩
    repeat' (first | exact Below.refl _ _ | assumption | (refine Below.drew ?_) | (refine Below.then ?_ (by assumption) ?_) | (refine Below.alloc ?_ ?_ _) | (refine Below.setCell ?_ ?_ _) | (simp; done) | (simp at *; omega) | omega)
  · have ia := okB_iff.1 ha
    have l1 := sayTo_len k 3
    have l2 := sayTo_len t 3
    have hz1 : ¬ 9223372036854775807 < (strOfNums (sayTo k 3)).size + 1 := by
      rw [strOfNums_size]; omega
    have hz2 : ¬ 9223372036854775807 < (strOfNums (sayTo k 3)).size + 1 + (strOfNums (sayTo t 3)).size := by
      rw [strOfNums_size, strOfNums_size]; omega
    go_enter Try.func30, Try.ntmps30
    go_wp2_with fail
    have PX := Pair.new w k t 24
    refine (sLabelOk_any _ _ _).mono ?_; rintro e w1 ⟨rfl, hb1⟩
    replace PX := PX.below hb1
    have hSt := And.intro PX.1 (And.intro PX.2.1 (below_then2 hb1 ((Below.refl _ _).alloc (Nat.le_refl w.heap.size) (.cells #[.int .i64 k, .int .i64 t] 24))))
    clear PX hb1
    go_wp2_with fail
    refine wp_region_held (S := (fun wz => wz.cell? ⟨w.heap.size, 0, none⟩ = some (.int .i64 k) ∧ wz.cell? ⟨w.heap.size, 1, none⟩ = some (.int .i64 t) ∧ Below w.heap.size w wz)) (by kernel_rfl) ?_
    change wpAnyH _ _ _ _ _ _ _ _ (World.drew _)
    have hHeld := ST_drew hSt
    refine' wpAnyH_take (i := 0) (v := _) rfl (by kernel_rfl) (by kernel_rfl) (by kernel_rfl) (fun _ _ _ h => h) (Or.inl ⟨by rfl, ?hy6⟩) hHeld ?hn6
    case hy6 => (intro wz hSw; (try dsimp only at hSw); go_simp; first | done | with_reducible rfl)
    try simp only [List.getElem_toArray, List.getElem_cons_zero, List.getElem_cons_succ, Act.put, List.setIfInBounds_toArray, List.set_cons_zero, List.set_cons_succ]
    refine' wpAnyH_take (i := 1) (v := _) rfl (by kernel_rfl) (by kernel_rfl) (by kernel_rfl) (fun _ _ _ h => h) (Or.inl ⟨by rfl, ?hy7⟩) hHeld ?hn7
    case hy7 => (intro wz hSw; (try dsimp only at hSw); go_simp; first | done | with_reducible rfl)
    try simp only [List.getElem_toArray, List.getElem_cons_zero, List.getElem_cons_succ, Act.put, List.setIfInBounds_toArray, List.set_cons_zero, List.set_cons_succ]
    refine' wpAnyH_take (i := 4) (v := _) rfl (by kernel_rfl) (by kernel_rfl) (by kernel_rfl) (fun _ _ _ h => h) (Or.inl ⟨by rfl, ?hy8⟩) hHeld ?hn8
    case hy8 => (intro wz hSw; (try dsimp only at hSw); go_simp; first | done | with_reducible rfl)
    try simp only [List.getElem_toArray, List.getElem_cons_zero, List.getElem_cons_succ, Act.put, List.setIfInBounds_toArray, List.set_cons_zero, List.set_cons_succ]
    refine' wpAnyH_take (i := 5) (v := _) rfl (by kernel_rfl) (by kernel_rfl) (by kernel_rfl) (fun _ _ _ h => h) (Or.inl ⟨by rfl, ?hy9⟩) hHeld ?hn9
    case hy9 => (intro wz hSw; (try dsimp only at hSw); go_simp; first | done | with_reducible rfl)
    try simp only [List.getElem_toArray, List.getElem_cons_zero, List.getElem_cons_succ, Act.put, List.setIfInBounds_toArray, List.set_cons_zero, List.set_cons_succ]
    refine wpAnyH_ready (rs := [2]) (by kernel_rfl) (by simp) ?_
    refine AllReadyH.cons rfl (fun K hK => ?_) AllReadyH.nil
    go_simp
    refine (l1Say_any _ _ (by omega) (by omega)).mono ?_; rintro e w9 ⟨rfl, hbx⟩
    refine hK.out _ _ (ST_later hbx hHeld) (fun hHeld => ?_)
    clear hK K
    refine' wpAnyH_take (i := 3) (v := _) rfl (by kernel_rfl) (by kernel_rfl) (by kernel_rfl) (fun _ _ _ h => h) (Or.inl ⟨by rfl, ?hy10⟩) hHeld ?hn10
    case hy10 => (intro wz hSw; (try dsimp only at hSw); go_simp; first | done | with_reducible rfl)
    try simp only [List.getElem_toArray, List.getElem_cons_zero, List.getElem_cons_succ, Act.put, List.setIfInBounds_toArray, List.set_cons_zero, List.set_cons_succ]
    refine wpAnyH_ready (rs := [6]) (by kernel_rfl) (by simp) ?_
    refine AllReadyH.cons rfl (fun K hK => ?_) AllReadyH.nil
    go_simp
    refine (l1Say_any _ _ (by omega) (by omega)).mono ?_; rintro e w9 ⟨rfl, hbx⟩
    refine hK.out _ _ (ST_later hbx hHeld) (fun hHeld => ?_)
    clear hK K
    refine' wpAnyH_take (i := 7) (v := _) rfl (by kernel_rfl) (by kernel_rfl) (by kernel_rfl) (fun _ _ _ h => h) (Or.inl ⟨by rfl, ?hy11⟩) hHeld ?hn11
    case hy11 => (intro wz hSw; (try dsimp only at hSw); go_simp; first | done | with_reducible rfl)
    try simp only [List.getElem_toArray, List.getElem_cons_zero, List.getElem_cons_succ, Act.put, List.setIfInBounds_toArray, List.set_cons_zero, List.set_cons_succ]
    refine' wpAnyH_take (i := 8) (v := _) rfl (by kernel_rfl) (by kernel_rfl) (by kernel_rfl) (fun _ _ _ h => h) (Or.inl ⟨by rfl, ?hy12⟩) hHeld ?hn12
    case hy12 => (intro wz hSw; (try dsimp only at hSw); go_simp; first | done | with_reducible rfl)
    try simp only [List.getElem_toArray, List.getElem_cons_zero, List.getElem_cons_succ, Act.put, List.setIfInBounds_toArray, List.set_cons_zero, List.set_cons_succ]
    refine wpAnyH_done (by kernel_rfl) ?_ _
    go_wp2
    go_ret
    exact ⟨rfl, hHeld.2.2⟩

theorem fnExactLabelText_walk (x0 y0 : Int) (w : World) (_ : I64 x0) (_ : I64 y0) :
    Calls Try.prog 15 #[.agg #[.int .i64 x0, .int .i64 y0]] w fun e w' => e = .returned (.bool true) ∧ Below w.heap.size w w' := by
  go_enter Try.func15, Try.ntmps15
  go_wp2_with fail
  refine (toLabel_any _ _ _).mono ?_; rintro e w1 ⟨rfl, hb1⟩; obtain ⟨hc1, hf1⟩ := bcell hb1; have hz1 : w.heap.size < w1.heap.size := by have := hb1.size; simp at this; omega
  go_wp2_with fail
  refine (sLabelText_any _ _ _).mono ?_; rintro e w2 ⟨rfl, hb2⟩; obtain ⟨hc2, hf2⟩ := bcell hb2; have hz2 : w.heap.size < w2.heap.size := by have := hb2.size; omega
  go_wp2_with fail
  refine (toLabel_any _ _ _).mono ?_; rintro e w3 ⟨rfl, hb3⟩
  go_wp2_with fail
  refine (labelText_any _ _ _).mono ?_; rintro e w4 ⟨rfl, hb4⟩
  clear hc1 hc2 hf1 hf2
  go_wp2
  go_ret
  refine ⟨rfl, ?_⟩
  have hs3 := hb3.size
  have hs4 := hb4.size
  repeat' (first | exact Below.refl _ _ | assumption | (refine Below.drew ?_) | (refine Below.then ?_ (by assumption) ?_) | (refine Below.alloc ?_ ?_ _) | (refine Below.setCell ?_ ?_ _) | (simp; done) | (simp at *; omega) | omega)

end Go.Proofs.Ytbkgkpfekbnpiaa
