/- bitRows: the iterator's value, over a new box that holds how many variables there are. -/
import Derived.Test.YthcgdhlemieboaaGreatDoorSnRit
import Derived.Test.YthcgdhlemieboaaGreatDoorSnLcx
import Derived.Test.YthcgdhlemieboaaGreatDoorSnKnw
import Derived.Test.YthcgdhlemieboaaGreatDoorSnLeh
import Derived.Deep.RegionHeld3
import Derived.Test.YthcgdhlemieboaaGreatDoorSnRfy
import Derived.Test.YthcgdhlemieboaaGreatDoorSnDpr
import Derived.Test.YthcgdhlemieboaaGreatDoorSnTyp
import Derived.Test.YthcgdhlemieboaaGreatDoorSnTyx
namespace Go.Proofs.YthcgdhlemieboaaGreatDoor
open Go.RowKit
set_option linter.unusedSimpArgs false
set_option linter.unusedVariables false

set_option maxHeartbeats 4000000 in
theorem bitRows_any (vars : Nat) (w : World) :
    Calls Tryz.prog 54 #[.int .i64 (vars : Int)] w fun e w' => e = .returned (.func (.func 73) #[] #[.pointer (some ⟨w.heap.size, 0, none⟩)]) ∧ Below w.heap.size w w' ∧ w.heap.size < w'.heap.size ∧ w'.cell? ⟨w.heap.size, 0, none⟩ = some (.int .i64 (vars : Int)) := by
  go_enter Tryz.func54, Tryz.ntmps54
  go_wp2
  go_ret
  exact ⟨rfl, (Below.refl _ _).alloc (Nat.le_refl _) _, by simp, by simp⟩

end Go.Proofs.YthcgdhlemieboaaGreatDoor

namespace Go.Proofs.YthcgdhlemieboaaGreatDoor
open Go.RowKit
set_option linter.unusedSimpArgs false
set_option linter.unusedVariables false
attribute [local go_sem] World.cell?_alloc_some

end Go.Proofs.YthcgdhlemieboaaGreatDoor

namespace Go.Proofs.YthcgdhlemieboaaGreatDoor
open Go.RowKit
set_option linter.unusedSimpArgs false
set_option linter.unusedVariables false
attribute [local go_sem ↓] Go.wp_at_zero Go.wp_at_succ
attribute [local go_sem] World.cell?_alloc_some

def varsL (vk va vb : Int) : List Int := if vk = 2 then [va] else if vk = 3 ∨ vk = 4 then [va, vb] else []

theorem grep_lit1 (w : World) (x : Int) (T : TypeId) : GRep (Value.int .i64) (w.alloc (.cells #[.int .i64 x] T)) (.slice (some ⟨w.heap.size, 0, none⟩) 1 1) [x] := by
  refine ⟨_, 1, rfl, Nat.le_refl _, by unfold maxLen; omega, fun i hi => ?_⟩
  match i, hi with
  | 0, _ => exact ⟨w.heap.size, 0, rfl, by simp⟩
theorem grep_lit2 (w : World) (x y : Int) (T : TypeId) : GRep (Value.int .i64) (w.alloc (.cells #[.int .i64 x, .int .i64 y] T)) (.slice (some ⟨w.heap.size, 0, none⟩) 2 2) [x, y] := by
  refine ⟨_, 2, rfl, Nat.le_refl _, by unfold maxLen; omega, fun i hi => ?_⟩
  match i, hi with
  | 0, _ => exact ⟨w.heap.size, 0, rfl, by simp⟩
  | 1, _ => exact ⟨w.heap.size, 0, rfl, by simp⟩

theorem vars_any (vk va vb : Int) (w : World) : Calls Tryz.prog 106 #[.agg #[.int .i64 vk, .int .i64 va, .int .i64 vb]] w fun e w' => ∃ a c, e = .returned (.slice a (varsL vk va vb).length c) ∧ Below w.heap.size w w' ∧ GRep (Value.int .i64) w' (.slice a (varsL vk va vb).length c) (varsL vk va vb) ∧ (∀ x, a = some x → w.heap.size ≤ x.block) := by
  have A1 : Below w.heap.size w (w.alloc (.cells #[.int .i64 vk, .int .i64 va, .int .i64 vb] 95)) := (Below.refl _ _).alloc (Nat.le_refl _) _
  by_cases h2 : vk = 2
  · subst h2
    go_enter Tryz.func106, Tryz.ntmps106
    go_wp2
    go_ret
    refine ⟨some ⟨w.heap.size + 1, 0, none⟩, 1, by simp [varsL], A1.alloc (by simp) _, ?_, fun x e => by cases e; simp⟩
    have := grep_lit1 (w.alloc (.cells #[.int .i64 2, .int .i64 va, .int .i64 vb] 95)) va 3
    simpa [varsL] using this
  by_cases h3 : vk = 3
  · subst h3
    go_enter Tryz.func106, Tryz.ntmps106
    go_wp2
    go_ret
    refine ⟨some ⟨w.heap.size + 1, 0, none⟩, 2, by simp [varsL], A1.alloc (by simp) _, ?_, fun x e => by cases e; simp⟩
    have := grep_lit2 (w.alloc (.cells #[.int .i64 3, .int .i64 va, .int .i64 vb] 95)) va vb 3
    simpa [varsL] using this
  by_cases h4 : vk = 4
  · subst h4
    go_enter Tryz.func106, Tryz.ntmps106
    go_wp2
    go_ret
    refine ⟨some ⟨w.heap.size + 1, 0, none⟩, 2, by simp [varsL], A1.alloc (by simp) _, ?_, fun x e => by cases e; simp⟩
    have := grep_lit2 (w.alloc (.cells #[.int .i64 4, .int .i64 va, .int .i64 vb] 95)) va vb 3
    simpa [varsL] using this
  · go_enter Tryz.func106, Tryz.ntmps106
    go_wp2
    go_ret
    have : varsL vk va vb = [] := by simp [varsL, h2, h3, h4]
    rw [this]
    refine ⟨none, 0, rfl, A1, ?_, fun x e => by cases e⟩
    exact ⟨none, 0, rfl, Nat.le_refl _, by unfold maxLen; omega, fun i hi => by simp at hi⟩

set_option maxRecDepth 20000 in
theorem top_any {w : World} {tb o g m c : Nat} {k t : Int} (h0 : w.cell? ⟨tb, o, none⟩ = some (.slice (some ⟨g, 0, none⟩) (m + 1) c)) (hm : m ≤ 1048576) (h1 : w.cell? ⟨g, m * 2, none⟩ = some (.int .i64 k)) (h2 : w.cell? ⟨g, m * 2 + 1, none⟩ = some (.int .i64 t)) :
    Calls Tryz.prog 92 #[.pointer (some ⟨tb, o, none⟩)] w fun e w' => e = .returned (.agg #[.int .i64 k, .int .i64 t]) ∧ Below w.heap.size w w' := by
  obtain ⟨w0, hw0⟩ : ∃ x, x = w.alloc (.cells #[.int .i64 0, .int .i64 0] 68) := ⟨_, rfl⟩
  have HA : Hid (Below w.heap.size w w0) := (show Below w.heap.size w w0 by rw [hw0]; exact (Below.refl _ _).alloc (Nat.le_refl _) _)
  have HG : Hid (C2 w0 w.heap.size (.int .i64 0) (.int .i64 0)) := (show C2 w0 w.heap.size (.int .i64 0) (.int .i64 0) by rw [hw0]; exact C2.new _ _ _ _)
  have HW0 : Hid _ := hw0
  have HW : Hid _ := w64 (m : Int) (by omega)
  have i0' : (0 : Int) ≤ (m : Int) := by omega
  have i1' : (m : Int) < (m : Int) + 1 := by omega
  clear hw0
  go_enter Tryz.func92, Tryz.ntmps92
  go_wp2_with fail
  rw [← HW0.out]
  refine wp_region_held (S := (fun wz => Below w.heap.size w wz)) (by kernel_rfl) ?_
  change wpAnyH _ _ _ _ _ _ _ _ (World.drew _)
  have hHeld := (HA.out : Below w.heap.size w w0).drew
  refine' wpAnyH_take (i := 0) (v := _) rfl (by kernel_rfl) (by kernel_rfl) (by kernel_rfl) (fun _ _ _ h => h) (Or.inl ⟨by rfl, ?hy701⟩) hHeld ?hn701
  case hy701 => (intro wz hSw; (try dsimp only at hSw); go_simp; first | done | with_reducible rfl)
  try simp only [nrm, Act.put]
  refine' wpAnyH_take (i := 1) (v := _) rfl (by kernel_rfl) (by kernel_rfl) (by kernel_rfl) (fun _ _ _ h => h) (Or.inl ⟨by rfl, ?hy702⟩) hHeld ?hn702
  case hy702 => (intro wz hSw; (try dsimp only at hSw); go_simp; first | done | with_reducible rfl)
  try simp only [nrm, Act.put]
  refine' wpAnyH_take (i := 2) (v := (.slice (some ⟨g, 0, none⟩) (m + 1) c)) rfl (by kernel_rfl) (by kernel_rfl) (by kernel_rfl) (fun _ _ _ h => h) (Or.inl ⟨by rfl, ?hy703⟩) hHeld ?hn703
  case hy703 => (intro wz hSw; have k0 := cell_later hSw h0; go_simp)
  try simp only [nrm, Act.put]
  refine' wpAnyH_take (i := 3) (v := _) rfl (by kernel_rfl) (by kernel_rfl) (by kernel_rfl) (fun _ _ _ h => h) (Or.inl ⟨by rfl, ?hy704⟩) hHeld ?hn704
  case hy704 => (intro wz hSw; (try dsimp only at hSw); go_simp; first | done | with_reducible rfl)
  try simp only [nrm, Act.put]
  refine' wpAnyH_take (i := 4) (v := _) rfl (by kernel_rfl) (by kernel_rfl) (by kernel_rfl) (fun _ _ _ h => h) (Or.inl ⟨by rfl, ?hy705⟩) hHeld ?hn705
  case hy705 => (intro wz hSw; (try dsimp only at hSw); go_simp; first | done | with_reducible rfl)
  try simp only [nrm, Act.put]
  refine' wpAnyH_take (i := 5) (v := (.slice (some ⟨g, 0, none⟩) (m + 1) c)) rfl (by kernel_rfl) (by kernel_rfl) (by kernel_rfl) (fun _ _ _ h => h) (Or.inl ⟨by rfl, ?hy706⟩) hHeld ?hn706
  case hy706 => (intro wz hSw; have k0 := cell_later hSw h0; go_simp)
  try simp only [nrm, Act.put]
  refine' wpAnyH_take (i := 6) (v := _) rfl (by kernel_rfl) (by kernel_rfl) (by kernel_rfl) (fun _ _ _ h => h) (Or.inl ⟨by rfl, ?hy707⟩) hHeld ?hn707
  case hy707 => (intro wz hSw; (try dsimp only at hSw); go_simp; first | done | with_reducible rfl)
  try simp only [nrm, Act.put]
  refine' wpAnyH_take (i := 7) (v := (.int .i64 (m : Int))) rfl (by kernel_rfl) (by kernel_rfl) (by kernel_rfl) (fun _ _ _ h => h) (Or.inl ⟨by rfl, ?hy708⟩) hHeld ?hn708
  case hy708 => (intro wz hSw; have h := HW.out; go_simp; first | done | simp [h] | omega)
  try simp only [nrm, Act.put]
  refine' wpAnyH_take (i := 8) (v := (.pointer (some ⟨g, m * 2, none⟩))) rfl (by kernel_rfl) (by kernel_rfl) (by kernel_rfl) (fun _ _ _ h => h) (Or.inl ⟨by rfl, ?hy709⟩) hHeld ?hn709
  case hy709 => (intro wz hSw; go_simp; first | done | with_reducible rfl | (simp; done) | omega)
  try simp only [nrm, Act.put]
  refine' wpAnyH_take (i := 9) (v := (.agg #[.int .i64 k, .int .i64 t])) rfl (by kernel_rfl) (by kernel_rfl) (by kernel_rfl) (fun _ _ _ h => h) (Or.inl ⟨by rfl, ?hy710⟩) hHeld ?hn710
  case hy710 => (intro wz hSw; have k0 := cell_later hSw h1; have k1 := cell_later hSw h2; go_simp)
  try simp only [nrm, Act.put]
  refine wpAnyH_ready (rs := [10]) (by kernel_rfl) (by simp) ?_
  refine AllReadyH.cons rfl (fun K hK => ?_) AllReadyH.nil
  skip
  obtain ⟨⟨q0, q1⟩, u0, u1⟩ := id HG.out
  have GG : Hid _ := (C2.set0 (.int .i64 k) HG.out).set1 (.int .i64 t)
  have hK2 : Below w.heap.size w ((w0.drew.setCell ⟨w.heap.size, 0, none⟩ (.int .i64 k)).setCell ⟨w.heap.size, 1, none⟩ (.int .i64 t)) := ((HA.out.drew).setCell (Nat.le_refl _) _).setCell (Nat.le_refl _) _
  go_simp
  refine hK.out _ _ (hK2) (fun hHeld => ?_)
  clear hK K
  refine wpAnyH_done (by kernel_rfl) ?_ _
  have HB : Hid (Below w.heap.size w ((w0.drew.setCell ⟨w.heap.size, 0, none⟩ (.int .i64 k)).setCell ⟨w.heap.size, 1, none⟩ (.int .i64 t))) := hHeld
  clear hHeld hK2
  go_wp2
  obtain ⟨⟨q0, q1⟩, -⟩ := GG.out
  exact bodyPost_ret (v := .agg #[.int .i64 k, .int .i64 t]) (by simp [results, Tryz.results92, go_sem, q0, q1]) rfl ⟨rfl, HB.out⟩

end Go.Proofs.YthcgdhlemieboaaGreatDoor

namespace Go.Proofs.YthcgdhlemieboaaGreatDoor
set_option linter.unusedSimpArgs false
set_option linter.unusedVariables false

def badJ (ls : List (Int × Int)) (bd : Option Nat) (n : Nat) (xs : List (Pay × (Int × Int))) : Option Nat := bd.or ((badI ls xs).map (· + n))
theorem badJ_nil (ls : List (Int × Int)) (bd : Option Nat) (n : Nat) : badJ ls bd n [] = bd := by simp [badJ, badI]
theorem badJ_app (ls : List (Int × Int)) (bd : Option Nat) (n : Nat) (xs ys : List (Pay × (Int × Int))) : badJ ls (badJ ls bd n xs) (n + xs.length) ys = badJ ls bd n (xs ++ ys) := by
  unfold badJ badI
  rw [List.findIdx?_append]
  cases bd with
  | some i => simp
  | none =>
    cases h : xs.findIdx? (fun x => !fineB ls x.1 x.2) with
    | some i => simp
    | none =>
      simp only [Option.none_or, Option.map_none, Option.map_map]
      congr 1
      funext k; simp; omega
theorem badJ_cons (ls : List (Int × Int)) (bd : Option Nat) (n : Nat) (x : Pay × (Int × Int)) (ys : List (Pay × (Int × Int))) : badJ ls bd n (x :: ys) = badJ ls (if bd = none ∧ fineB ls x.1 x.2 = false then some n else bd) (n + 1) ys := by
  rw [← List.singleton_append, ← badJ_app]
  congr 1
  unfold badJ badI
  cases bd with
  | some i => simp
  | none =>
    cases h : fineB ls x.1 x.2 <;> simp [h, List.findIdx?_cons]
theorem prs_zero (ls : List (Int × Int)) : ∀ (d : Nat) (T : Tr d) (h : Int × Int), ln d T = 0 → prs ls d T h = []
  | 0, _, _, _ => rfl
  | d + 1, (l : List (Pay × Tr d × Tr d)), h, e => by
    have : l = [] := List.eq_nil_of_length_eq_zero e
    subst this; rfl
theorem setsL_zero (ls : List (Int × Int)) : ∀ (d : Nat) (T : Tr d), ln d T = 0 → setsL ls d T = []
  | 0, _, _ => rfl
  | d + 1, (l : List (Pay × Tr d × Tr d)), e => by
    have : l = [] := List.eq_nil_of_length_eq_zero e
    subst this; rfl
theorem setT_zero (ls : List (Int × Int)) : ∀ (d : Nat) (T : Tr d), ln d T = 0 → setT ls d T = 0
  | 0, _, _ => rfl
  | d + 1, (l : List (Pay × Tr d × Tr d)), e => by
    have : l = [] := List.eq_nil_of_length_eq_zero e
    subst this; rfl
theorem payB_cases {n : Int} {p : Pay} {z : Bool} (h : payB n p z = true) : vIn n p.v = true ∧ ((p.k = 1 ∧ valB n p.vk p.va p.vb = true ∧ z = true) ∨ (p.k = 3 ∧ (0 ≤ p.h ∧ p.h ≤ 2) ∧ z = true) ∨ p.k = 2) := by
  unfold payB at h
  simp only [Bool.and_eq_true_iff] at h
  refine ⟨h.1, ?_⟩
  have h2 := h.2
  split at h2
  · simp only [Bool.and_eq_true_iff] at h2
    exact .inl ⟨by assumption, h2.1.1, h2.2⟩
  · split at h2
    · simp only [Bool.and_eq_true_iff] at h2
      refine .inr (.inl ⟨by assumption, ?_, ?_⟩)
      · have := h2.1.2; simp [vIn] at this; omega
      · exact h2.2
    · split at h2
      · exact .inr (.inr (by assumption))
      · cases h2
end Go.Proofs.YthcgdhlemieboaaGreatDoor

namespace Go.Proofs.YthcgdhlemieboaaGreatDoor
set_option linter.unusedSimpArgs false
set_option linter.unusedVariables false

theorem okR_iff {ls : List (Int × Int)} {d : Nat} {T : Tr d} (hp : progB ls d T = true) : ((progB ls d T && !(whyR ls d T).2) = true) ↔ ∀ x ∈ prs ls d T topL, fineB ls x.1 x.2 = true := by
  unfold whyR
  rw [hp]
  simp only [if_true, Bool.true_and]
  unfold badI
  cases h : (prs ls d T topL).findIdx? (fun x => !fineB ls x.1 x.2) with
  | none => simpa [List.findIdx?_eq_none_iff] using h
  | some i =>
    simp only [Bool.not_true]
    constructor
    · intro h; cases h
    · intro hall
      obtain ⟨hi, hx, -⟩ := List.findIdx?_eq_some_iff_getElem.1 h
      rw [hall _ (List.getElem_mem hi)] at hx
      cases hx
end Go.Proofs.YthcgdhlemieboaaGreatDoor
