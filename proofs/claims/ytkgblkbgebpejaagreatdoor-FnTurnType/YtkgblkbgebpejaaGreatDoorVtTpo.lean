/- What is said of a program's steps as they are counted: the variables of a value; the label at the top. -/
import Derived.Test.YtkgblkbgebpejaaGreatDoorVtRwx
import Derived.Test.YtkgblkbgebpejaaGreatDoorVtDpr
namespace Go.Proofs.YtkgblkbgebpejaaGreatDoor
open Go.RowKit
set_option linter.unusedSimpArgs false
set_option linter.unusedVariables false
attribute [local go_sem ↓] Go.wp_at_zero Go.wp_at_succ
attribute [local go_sem] World.cell?_alloc_some

/-- The variables of which a value is made. -/
def varsL (vk va vb : Int) : List Int := if vk = 2 then [va] else if vk = 3 ∨ vk = 4 then [va, vb] else []

theorem grep_lit1 (w : World) (x : Int) (T : TypeId) : GRep (Value.int .i64) (w.alloc (.cells #[.int .i64 x] T)) (.slice (some ⟨w.heap.size, 0, none⟩) 1 1) [x] := by
  refine ⟨_, 1, rfl, Nat.le_refl _, by unfold maxLen; omega, fun i hi => ?_⟩
  match i, hi with
  | 0, _ => exact ⟨w.heap.size, 0, rfl, by simp⟩
theorem grep_lit2 (w : World) (x y : Int) (T : TypeId) : GRep (Value.int .i64) (w.alloc (.cells #[.int .i64 x, .int .i64 y] T)) (.slice (some ⟨w.heap.size, 0, none⟩) 2 2) [x, y] := by
  refine ⟨_, 2, rfl, Nat.le_refl _, by unfold maxLen; omega, fun i hi => ?_⟩
  match i, hi with
  | 0, _ => exact ⟨w.heap.size, 0, rfl, by simp⟩
  | 1, _ => exact ⟨w.heap.size, 0, rfl, by simp⟩

theorem vars_any (vk va vb : Int) (w : World) : Calls Tryz.prog 111 #[.agg #[.int .i64 vk, .int .i64 va, .int .i64 vb]] w fun e w' => ∃ a c, e = .returned (.slice a (varsL vk va vb).length c) ∧ Below w.heap.size w w' ∧ GRep (Value.int .i64) w' (.slice a (varsL vk va vb).length c) (varsL vk va vb) ∧ (∀ x, a = some x → w.heap.size ≤ x.block) := by
  have A1 : Below w.heap.size w (w.alloc (.cells #[.int .i64 vk, .int .i64 va, .int .i64 vb] 54)) := (Below.refl _ _).alloc (Nat.le_refl _) _
  by_cases h2 : vk = 2
  · subst h2
    go_enter Tryz.func111, Tryz.ntmps111
    go_wp2
    go_ret
    refine ⟨some ⟨w.heap.size + 1, 0, none⟩, 1, by simp [varsL], A1.alloc (by simp) _, ?_, fun x e => by cases e; simp⟩
    have := grep_lit1 (w.alloc (.cells #[.int .i64 2, .int .i64 va, .int .i64 vb] 54)) va 3
    simpa [varsL] using this
  by_cases h3 : vk = 3
  · subst h3
    go_enter Tryz.func111, Tryz.ntmps111
    go_wp2
    go_ret
    refine ⟨some ⟨w.heap.size + 1, 0, none⟩, 2, by simp [varsL], A1.alloc (by simp) _, ?_, fun x e => by cases e; simp⟩
    have := grep_lit2 (w.alloc (.cells #[.int .i64 3, .int .i64 va, .int .i64 vb] 54)) va vb 3
    simpa [varsL] using this
  by_cases h4 : vk = 4
  · subst h4
    go_enter Tryz.func111, Tryz.ntmps111
    go_wp2
    go_ret
    refine ⟨some ⟨w.heap.size + 1, 0, none⟩, 2, by simp [varsL], A1.alloc (by simp) _, ?_, fun x e => by cases e; simp⟩
    have := grep_lit2 (w.alloc (.cells #[.int .i64 4, .int .i64 va, .int .i64 vb] 54)) va vb 3
    simpa [varsL] using this
  · go_enter Tryz.func111, Tryz.ntmps111
    go_wp2
    go_ret
    have : varsL vk va vb = [] := by simp [varsL, h2, h3, h4]
    rw [this]
    refine ⟨none, 0, rfl, A1, ?_, fun x e => by cases e⟩
    exact ⟨none, 0, rfl, Nat.le_refl _, by unfold maxLen; omega, fun i hi => by simp at hi⟩

set_option maxRecDepth 20000 in
/-- The label at the top. -/
theorem top_any {w : World} {tb o g m c : Nat} {k t : Int} (h0 : w.cell? ⟨tb, o, none⟩ = some (.slice (some ⟨g, 0, none⟩) (m + 1) c)) (hm : m ≤ 1048576) (h1 : w.cell? ⟨g, m * 2, none⟩ = some (.int .i64 k)) (h2 : w.cell? ⟨g, m * 2 + 1, none⟩ = some (.int .i64 t)) :
    Calls Tryz.prog 106 #[.pointer (some ⟨tb, o, none⟩)] w fun e w' => e = .returned (.agg #[.int .i64 k, .int .i64 t]) ∧ Below w.heap.size w w' := by
  obtain ⟨w0, hw0⟩ : ∃ x, x = w.alloc (.cells #[.int .i64 0, .int .i64 0] 58) := ⟨_, rfl⟩
  have HA : Hid (Below w.heap.size w w0) := (show Below w.heap.size w w0 by rw [hw0]; exact (Below.refl _ _).alloc (Nat.le_refl _) _)
  have HG : Hid (C2 w0 w.heap.size (.int .i64 0) (.int .i64 0)) := (show C2 w0 w.heap.size (.int .i64 0) (.int .i64 0) by rw [hw0]; exact C2.new _ _ _ _)
  have HW0 : Hid _ := hw0
  have HW : Hid _ := w64 (m : Int) (by omega)
  have i0' : (0 : Int) ≤ (m : Int) := by omega
  have i1' : (m : Int) < (m : Int) + 1 := by omega
  clear hw0
  go_enter Tryz.func106, Tryz.ntmps106
  go_wp2_with fail
  rw [← HW0.out]
  refine wp_region_held (S := (fun wz => Below w.heap.size w wz)) (by kernel_rfl) ?_
  change wpAnyH _ _ _ _ _ _ _ _ (World.drew _)
  have hHeld := (HA.out : Below w.heap.size w w0).drew
  refine' wpAnyH_take (i := 0) (v := _) rfl (by kernel_rfl) (by kernel_rfl) (by kernel_rfl) (fun _ _ _ h => h) (Or.inl ⟨by rfl, ?hy701⟩) hHeld ?hn701
  case hy701 => (intro wz hSw; (try dsimp only at hSw); go_simp; first | done | with_reducible rfl)
  try simp only [nrm, Act.put]
  refine' wpAnyH_take (i := 1) (v := _) rfl (by kernel_rfl) (by kernel_rfl) (by kernel_rfl) (fun _ _ _ h => h) (Or.inl ⟨by rfl, ?hy702⟩) hHeld ?hn702
  case hy702 => (intro wz hSw; (try dsimp only at hSw); go_simp; first | done | with_reducible rfl)
  try simp only [nrm, Act.put]
  refine' wpAnyH_take (i := 2) (v := (.slice (some ⟨g, 0, none⟩) (m + 1) c)) rfl (by kernel_rfl) (by kernel_rfl) (by kernel_rfl) (fun _ _ _ h => h) (Or.inl ⟨by rfl, ?hy703⟩) hHeld ?hn703
  case hy703 => (intro wz hSw; have k0 := cell_later hSw h0; go_simp)
  try simp only [nrm, Act.put]
  refine' wpAnyH_take (i := 3) (v := _) rfl (by kernel_rfl) (by kernel_rfl) (by kernel_rfl) (fun _ _ _ h => h) (Or.inl ⟨by rfl, ?hy704⟩) hHeld ?hn704
  case hy704 => (intro wz hSw; (try dsimp only at hSw); go_simp; first | done | with_reducible rfl)
  try simp only [nrm, Act.put]
  refine' wpAnyH_take (i := 4) (v := _) rfl (by kernel_rfl) (by kernel_rfl) (by kernel_rfl) (fun _ _ _ h => h) (Or.inl ⟨by rfl, ?hy705⟩) hHeld ?hn705
  case hy705 => (intro wz hSw; (try dsimp only at hSw); go_simp; first | done | with_reducible rfl)
  try simp only [nrm, Act.put]
  refine' wpAnyH_take (i := 5) (v := (.slice (some ⟨g, 0, none⟩) (m + 1) c)) rfl (by kernel_rfl) (by kernel_rfl) (by kernel_rfl) (fun _ _ _ h => h) (Or.inl ⟨by rfl, ?hy706⟩) hHeld ?hn706
  case hy706 => (intro wz hSw; have k0 := cell_later hSw h0; go_simp)
  try simp only [nrm, Act.put]
  refine' wpAnyH_take (i := 6) (v := _) rfl (by kernel_rfl) (by kernel_rfl) (by kernel_rfl) (fun _ _ _ h => h) (Or.inl ⟨by rfl, ?hy707⟩) hHeld ?hn707
  case hy707 => (intro wz hSw; (try dsimp only at hSw); go_simp; first | done | with_reducible rfl)
  try simp only [nrm, Act.put]
  refine' wpAnyH_take (i := 7) (v := (.int .i64 (m : Int))) rfl (by kernel_rfl) (by kernel_rfl) (by kernel_rfl) (fun _ _ _ h => h) (Or.inl ⟨by rfl, ?hy708⟩) hHeld ?hn708
  case hy708 => (intro wz hSw; have h := HW.out; go_simp; first | done | simp [h] | omega)
  try simp only [nrm, Act.put]
  refine' wpAnyH_take (i := 8) (v := (.pointer (some ⟨g, m * 2, none⟩))) rfl (by kernel_rfl) (by kernel_rfl) (by kernel_rfl) (fun _ _ _ h => h) (Or.inl ⟨by rfl, ?hy709⟩) hHeld ?hn709
  case hy709 => (intro wz hSw; go_simp; first | done | with_reducible rfl | (simp; done) | omega)
  try simp only [nrm, Act.put]
  refine' wpAnyH_take (i := 9) (v := (.agg #[.int .i64 k, .int .i64 t])) rfl (by kernel_rfl) (by kernel_rfl) (by kernel_rfl) (fun _ _ _ h => h) (Or.inl ⟨by rfl, ?hy710⟩) hHeld ?hn710
  case hy710 => (intro wz hSw; have k0 := cell_later hSw h1; have k1 := cell_later hSw h2; go_simp)
  try simp only [nrm, Act.put]
  refine wpAnyH_ready (rs := [10]) (by kernel_rfl) (by simp) ?_
  refine AllReadyH.cons rfl (fun K hK => ?_) AllReadyH.nil
  skip
  obtain ⟨⟨q0, q1⟩, u0, u1⟩ := id HG.out
  have GG : Hid _ := (C2.set0 (.int .i64 k) HG.out).set1 (.int .i64 t)
  have hK2 : Below w.heap.size w ((w0.drew.setCell ⟨w.heap.size, 0, none⟩ (.int .i64 k)).setCell ⟨w.heap.size, 1, none⟩ (.int .i64 t)) := ((HA.out.drew).setCell (Nat.le_refl _) _).setCell (Nat.le_refl _) _
  go_simp
  refine hK.out _ _ (hK2) (fun hHeld => ?_)
  clear hK K
  refine wpAnyH_done (by kernel_rfl) ?_ _
  have HB : Hid (Below w.heap.size w ((w0.drew.setCell ⟨w.heap.size, 0, none⟩ (.int .i64 k)).setCell ⟨w.heap.size, 1, none⟩ (.int .i64 t))) := hHeld
  clear hHeld hK2
  go_wp2
  obtain ⟨⟨q0, q1⟩, -⟩ := GG.out
  exact bodyPost_ret (v := .agg #[.int .i64 k, .int .i64 t]) (by simp [results, Tryz.results106, go_sem, q0, q1]) rfl ⟨rfl, HB.out⟩

end Go.Proofs.YtkgblkbgebpejaaGreatDoor
