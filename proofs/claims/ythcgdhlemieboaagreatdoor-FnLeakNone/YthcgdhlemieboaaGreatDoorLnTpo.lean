/- The rows that have been tried, as they lie while others are tried: a row of rows and of what came of the program. -/
import Derived.Test.YthcgdhlemieboaaGreatDoorLnLeb
import Derived.Test.YthcgdhlemieboaaGreatDoorLnDox
import Derived.Deep.RegionHeld3
import Derived.Test.YthcgdhlemieboaaGreatDoorLnBotI
import Derived.Test.YthcgdhlemieboaaGreatDoorLnDpr
namespace Go.Proofs.YthcgdhlemieboaaGreatDoor
open Go.RowKit
set_option linter.unusedSimpArgs false
set_option linter.unusedVariables false

structure T4 where
  r : Value
  n : Value
  s : Value
  t : Value
def T4.cells (x : T4) : List Value := [x.r, x.n, x.s, x.t]
def T4.Has (x : T4) (b : Nat) : Prop := x.r.ownBlock = some b ∨ x.n.ownBlock = some b ∨ x.s.ownBlock = some b ∨ x.t.ownBlock = some b

structure One (B : Nat) (w : World) (x : T4) (zs : List Int) (s : RSt) : Prop where
  row : w.ownsRow B 3 1 x.r zs.length (zs.map (Value.int .i64))
  run : R3 B w x.n x.s x.t s

theorem One.frame {B : Nat} {w w' : World} {x : T4} {zs : List Int} {s : RSt} (h : One B w x zs s) (hb : ∀ b, b < w.heap.size → x.Has b → w'.heap[b]? = w.heap[b]?) : One B w' x zs s :=
  ⟨rowg_frame h.row (fun b e => hb b (World.ownsRow.lt h.row b e).2 (.inl e)), h.run.frame (fun b hlt e => hb b hlt (.inr e))⟩
theorem One.lt {B : Nat} {w : World} {x : T4} {zs : List Int} {s : RSt} (h : One B w x zs s) {b : Nat} (e : x.Has b) : B ≤ b ∧ b < w.heap.size := by
  rcases e with e | e | e | e
  · exact World.ownsRow.lt h.row b e
  · exact World.ownsRow.lt h.run.n b e
  · exact World.ownsRow.lt h.run.ws b e
  · exact World.ownsRow.lt h.run.ss b e

structure Ah (B : Nat) (w : World) (A : Nat) (av : Value) (xs : List T4) (f : Nat → List Int) (g : Nat → RSt) : Prop where
  cell : w.cell? ⟨A, 0, none⟩ = some av
  free : w.frozen? ⟨A, 0, none⟩ = false
  row : w.ownsRow B 51 4 av xs.length (xs.flatMap T4.cells)
  one : ∀ j (hj : j < xs.length), One B w xs[j] (f j) (g j)
  far : ∀ j (hj : j < xs.length) b, xs[j].Has b → b ≠ A ∧ av.ownBlock ≠ some b
  self : av.ownBlock ≠ some A

def Ah.Has (A : Nat) (av : Value) (xs : List T4) (b : Nat) : Prop := b = A ∨ av.ownBlock = some b ∨ ∃ j, ∃ hj : j < xs.length, xs[j].Has b

theorem Ah.lt {B : Nat} {w : World} {A : Nat} {av : Value} {xs : List T4} {f : Nat → List Int} {g : Nat → RSt} (h : Ah B w A av xs f g) : A < w.heap.size := by
  have := h.cell
  unfold World.cell? at this
  dsimp only at this
  by_cases hlt : A < w.heap.size
  · exact hlt
  · rw [Array.getElem?_eq_none (by omega)] at this
    cases this
theorem Ah.frame {B : Nat} {w w' : World} {A : Nat} {av : Value} {xs : List T4} {f : Nat → List Int} {g : Nat → RSt} (h : Ah B w A av xs f g)
    (hb : ∀ b, b < w.heap.size → Ah.Has A av xs b → w'.heap[b]? = w.heap[b]?) : Ah B w' A av xs f g := by
  have hA := h.lt
  have eA := hb A hA (.inl rfl)
  refine ⟨?_, ?_, rowg_frame h.row (fun b e => hb b (World.ownsRow.lt h.row b e).2 (.inr (.inl e))), fun j hj => (h.one j hj).frame (fun b hlt e => hb b hlt (.inr (.inr ⟨j, hj, e⟩))), h.far, h.self⟩
  · have := h.cell
    unfold World.cell? at this ⊢
    dsimp only at this ⊢
    rw [eA]
    exact this
  · have := h.free
    unfold World.frozen? at this ⊢
    dsimp only at this ⊢
    rw [eA]
    exact this

theorem Ah.push {B : Nat} {w w' : World} {A : Nat} {av v' : Value} {xs : List T4} {x : T4} {f : Nat → List Int} {g : Nat → RSt} (h : Ah B w A av xs f g)
    (ho : w'.ownsRow B 51 4 v' (xs.length + 1) (xs.flatMap T4.cells ++ x.cells)) (hg : w.grownBy w' av.ownBlock) (ha : v'.ownBlock = av.ownBlock ∨ v'.ownBlock = some w.heap.size)
    (h1 : One B w x (f xs.length) (g xs.length)) (hx : ∀ b, x.Has b → b ≠ A ∧ av.ownBlock ≠ some b) :
    Ah B (w'.setCell ⟨A, 0, none⟩ v') A v' (xs ++ [x]) f g := by
  have hA := h.lt
  have eA : w'.heap[A]? = w.heap[A]? := hg.block A hA (fun q => h.self q.symm)
  have cA : w'.cell? ⟨A, 0, none⟩ = some av := by
    have := h.cell
    unfold World.cell? at this ⊢
    dsimp only at this ⊢
    rw [eA]; exact this
  have fA : w'.frozen? ⟨A, 0, none⟩ = false := by
    have := h.free
    unfold World.frozen? at this ⊢
    dsimp only at this ⊢
    rw [eA]; exact this
  have sA : v'.ownBlock ≠ some A := by
    rcases ha with e | e
    · rw [e]; exact h.self
    · rw [e]; intro q; cases q; omega
  have kp : ∀ b, b < w.heap.size → b ≠ A → av.ownBlock ≠ some b → (w'.setCell ⟨A, 0, none⟩ v').heap[b]? = w.heap[b]? := fun b hlt hne hnv =>
    (Below.heap_setCell _ _ _ _ hne).trans (hg.block b hlt (fun q => hnv q.symm))
  have nv : ∀ b, b < w.heap.size → av.ownBlock ≠ some b → v'.ownBlock ≠ some b := fun b hlt hnv => by
    rcases ha with e | e
    · rw [e]; exact hnv
    · rw [e]; intro q; cases q; omega
  refine ⟨World.cell?_setCell_same' _ _ _ (by rw [cA]; rfl), by rw [World.frozen?_setCell]; exact fA, ?_, fun j hj => ?_, fun j hj b e => ?_, sA⟩
  · have := rowg_frame (w' := w'.setCell ⟨A, 0, none⟩ v') ho (fun b e => Below.heap_setCell _ _ _ _ (fun q => by subst q; exact sA e))
    simpa using this
  · by_cases hl : j < xs.length
    · rw [List.getElem_append_left hl]
      exact (h.one j hl).frame (fun b hlt e => kp b hlt (h.far j hl b e).1 (h.far j hl b e).2)
    · have e : j = xs.length := by simp at hj; omega
      subst e
      rw [List.getElem_append_right (Nat.le_refl _)]
      simp only [Nat.sub_self, List.getElem_cons_zero]
      exact h1.frame (fun b hlt e => kp b hlt (hx b e).1 (hx b e).2)
  · by_cases hl : j < xs.length
    · rw [List.getElem_append_left hl] at e
      exact ⟨(h.far j hl b e).1, nv b ((h.one j hl).lt e).2 (h.far j hl b e).2⟩
    · have q : j = xs.length := by simp at hj; omega
      subst q
      rw [List.getElem_append_right (Nat.le_refl _)] at e
      simp only [Nat.sub_self, List.getElem_cons_zero] at e
      exact ⟨(hx b e).1, nv b (h1.lt e).2 (hx b e).2⟩

end Go.Proofs.YthcgdhlemieboaaGreatDoor

namespace Go.Proofs.YthcgdhlemieboaaGreatDoor
open Go.RowKit
set_option linter.unusedSimpArgs false
set_option linter.unusedVariables false
attribute [local go_sem ↓] Go.wp_at_zero Go.wp_at_succ
attribute [local go_sem] World.cell?_alloc_some

def varsL (vk va vb : Int) : List Int := if vk = 2 then [va] else if vk = 3 ∨ vk = 4 then [va, vb] else []

theorem grep_lit1 (w : World) (x : Int) (T : TypeId) : GRep (Value.int .i64) (w.alloc (.cells #[.int .i64 x] T)) (.slice (some ⟨w.heap.size, 0, none⟩) 1 1) [x] := by
  refine ⟨_, 1, rfl, Nat.le_refl _, by unfold maxLen; omega, fun i hi => ?_⟩
  match i, hi with
  | 0, _ => exact ⟨w.heap.size, 0, rfl, by simp⟩
theorem grep_lit2 (w : World) (x y : Int) (T : TypeId) : GRep (Value.int .i64) (w.alloc (.cells #[.int .i64 x, .int .i64 y] T)) (.slice (some ⟨w.heap.size, 0, none⟩) 2 2) [x, y] := by
  refine ⟨_, 2, rfl, Nat.le_refl _, by unfold maxLen; omega, fun i hi => ?_⟩
  match i, hi with
  | 0, _ => exact ⟨w.heap.size, 0, rfl, by simp⟩
  | 1, _ => exact ⟨w.heap.size, 0, rfl, by simp⟩

theorem vars_any (vk va vb : Int) (w : World) : Calls Tryz.prog 106 #[.agg #[.int .i64 vk, .int .i64 va, .int .i64 vb]] w fun e w' => ∃ a c, e = .returned (.slice a (varsL vk va vb).length c) ∧ Below w.heap.size w w' ∧ GRep (Value.int .i64) w' (.slice a (varsL vk va vb).length c) (varsL vk va vb) ∧ (∀ x, a = some x → w.heap.size ≤ x.block) := by
  have A1 : Below w.heap.size w (w.alloc (.cells #[.int .i64 vk, .int .i64 va, .int .i64 vb] 95)) := (Below.refl _ _).alloc (Nat.le_refl _) _
  by_cases h2 : vk = 2
  · subst h2
    go_enter Tryz.func106, Tryz.ntmps106
    go_wp2
    go_ret
    refine ⟨some ⟨w.heap.size + 1, 0, none⟩, 1, by simp [varsL], A1.alloc (by simp) _, ?_, fun x e => by cases e; simp⟩
    have := grep_lit1 (w.alloc (.cells #[.int .i64 2, .int .i64 va, .int .i64 vb] 95)) va 3
    simpa [varsL] using this
  by_cases h3 : vk = 3
  · subst h3
    go_enter Tryz.func106, Tryz.ntmps106
    go_wp2
    go_ret
    refine ⟨some ⟨w.heap.size + 1, 0, none⟩, 2, by simp [varsL], A1.alloc (by simp) _, ?_, fun x e => by cases e; simp⟩
    have := grep_lit2 (w.alloc (.cells #[.int .i64 3, .int .i64 va, .int .i64 vb] 95)) va vb 3
    simpa [varsL] using this
  by_cases h4 : vk = 4
  · subst h4
    go_enter Tryz.func106, Tryz.ntmps106
    go_wp2
    go_ret
    refine ⟨some ⟨w.heap.size + 1, 0, none⟩, 2, by simp [varsL], A1.alloc (by simp) _, ?_, fun x e => by cases e; simp⟩
    have := grep_lit2 (w.alloc (.cells #[.int .i64 4, .int .i64 va, .int .i64 vb] 95)) va vb 3
    simpa [varsL] using this
  · go_enter Tryz.func106, Tryz.ntmps106
    go_wp2
    go_ret
    have : varsL vk va vb = [] := by simp [varsL, h2, h3, h4]
    rw [this]
    refine ⟨none, 0, rfl, A1, ?_, fun x e => by cases e⟩
    exact ⟨none, 0, rfl, Nat.le_refl _, by unfold maxLen; omega, fun i hi => by simp at hi⟩

set_option maxRecDepth 20000 in
theorem top_any {w : World} {tb o g m c : Nat} {k t : Int} (h0 : w.cell? ⟨tb, o, none⟩ = some (.slice (some ⟨g, 0, none⟩) (m + 1) c)) (hm : m ≤ 1048576) (h1 : w.cell? ⟨g, m * 2, none⟩ = some (.int .i64 k)) (h2 : w.cell? ⟨g, m * 2 + 1, none⟩ = some (.int .i64 t)) :
    Calls Tryz.prog 92 #[.pointer (some ⟨tb, o, none⟩)] w fun e w' => e = .returned (.agg #[.int .i64 k, .int .i64 t]) ∧ Below w.heap.size w w' := by
  obtain ⟨w0, hw0⟩ : ∃ x, x = w.alloc (.cells #[.int .i64 0, .int .i64 0] 68) := ⟨_, rfl⟩
  have HA : Hid (Below w.heap.size w w0) := (show Below w.heap.size w w0 by rw [hw0]; exact (Below.refl _ _).alloc (Nat.le_refl _) _)
  have HG : Hid (C2 w0 w.heap.size (.int .i64 0) (.int .i64 0)) := (show C2 w0 w.heap.size (.int .i64 0) (.int .i64 0) by rw [hw0]; exact C2.new _ _ _ _)
  have HW0 : Hid _ := hw0
  have HW : Hid _ := w64 (m : Int) (by omega)
  have i0' : (0 : Int) ≤ (m : Int) := by omega
  have i1' : (m : Int) < (m : Int) + 1 := by omega
  clear hw0
  go_enter Tryz.func92, Tryz.ntmps92
  go_wp2_with fail
  rw [← HW0.out]
  refine wp_region_held (S := (fun wz => Below w.heap.size w wz)) (by kernel_rfl) ?_
  change wpAnyH _ _ _ _ _ _ _ _ (World.drew _)
  have hHeld := (HA.out : Below w.heap.size w w0).drew
  refine' wpAnyH_take (i := 0) (v := _) rfl (by kernel_rfl) (by kernel_rfl) (by kernel_rfl) (fun _ _ _ h => h) (Or.inl ⟨by rfl, ?hy701⟩) hHeld ?hn701
  case hy701 => (intro wz hSw; (try dsimp only at hSw); go_simp; first | done | with_reducible rfl)
  try simp only [nrm, Act.put]
  refine' wpAnyH_take (i := 1) (v := _) rfl (by kernel_rfl) (by kernel_rfl) (by kernel_rfl) (fun _ _ _ h => h) (Or.inl ⟨by rfl, ?hy702⟩) hHeld ?hn702
  case hy702 => (intro wz hSw; (try dsimp only at hSw); go_simp; first | done | with_reducible rfl)
  try simp only [nrm, Act.put]
  refine' wpAnyH_take (i := 2) (v := (.slice (some ⟨g, 0, none⟩) (m + 1) c)) rfl (by kernel_rfl) (by kernel_rfl) (by kernel_rfl) (fun _ _ _ h => h) (Or.inl ⟨by rfl, ?hy703⟩) hHeld ?hn703
  case hy703 => (intro wz hSw; have k0 := cell_later hSw h0; go_simp)
  try simp only [nrm, Act.put]
  refine' wpAnyH_take (i := 3) (v := _) rfl (by kernel_rfl) (by kernel_rfl) (by kernel_rfl) (fun _ _ _ h => h) (Or.inl ⟨by rfl, ?hy704⟩) hHeld ?hn704
  case hy704 => (intro wz hSw; (try dsimp only at hSw); go_simp; first | done | with_reducible rfl)
  try simp only [nrm, Act.put]
  refine' wpAnyH_take (i := 4) (v := _) rfl (by kernel_rfl) (by kernel_rfl) (by kernel_rfl) (fun _ _ _ h => h) (Or.inl ⟨by rfl, ?hy705⟩) hHeld ?hn705
  case hy705 => (intro wz hSw; (try dsimp only at hSw); go_simp; first | done | with_reducible rfl)
  try simp only [nrm, Act.put]
  refine' wpAnyH_take (i := 5) (v := (.slice (some ⟨g, 0, none⟩) (m + 1) c)) rfl (by kernel_rfl) (by kernel_rfl) (by kernel_rfl) (fun _ _ _ h => h) (Or.inl ⟨by rfl, ?hy706⟩) hHeld ?hn706
  case hy706 => (intro wz hSw; have k0 := cell_later hSw h0; go_simp)
  try simp only [nrm, Act.put]
  refine' wpAnyH_take (i := 6) (v := _) rfl (by kernel_rfl) (by kernel_rfl) (by kernel_rfl) (fun _ _ _ h => h) (Or.inl ⟨by rfl, ?hy707⟩) hHeld ?hn707
  case hy707 => (intro wz hSw; (try dsimp only at hSw); go_simp; first | done | with_reducible rfl)
  try simp only [nrm, Act.put]
  refine' wpAnyH_take (i := 7) (v := (.int .i64 (m : Int))) rfl (by kernel_rfl) (by kernel_rfl) (by kernel_rfl) (fun _ _ _ h => h) (Or.inl ⟨by rfl, ?hy708⟩) hHeld ?hn708
  case hy708 => (intro wz hSw; have h := HW.out; go_simp; first | done | simp [h] | omega)
  try simp only [nrm, Act.put]
  refine' wpAnyH_take (i := 8) (v := (.pointer (some ⟨g, m * 2, none⟩))) rfl (by kernel_rfl) (by kernel_rfl) (by kernel_rfl) (fun _ _ _ h => h) (Or.inl ⟨by rfl, ?hy709⟩) hHeld ?hn709
  case hy709 => (intro wz hSw; go_simp; first | done | with_reducible rfl | (simp; done) | omega)
  try simp only [nrm, Act.put]
  refine' wpAnyH_take (i := 9) (v := (.agg #[.int .i64 k, .int .i64 t])) rfl (by kernel_rfl) (by kernel_rfl) (by kernel_rfl) (fun _ _ _ h => h) (Or.inl ⟨by rfl, ?hy710⟩) hHeld ?hn710
  case hy710 => (intro wz hSw; have k0 := cell_later hSw h1; have k1 := cell_later hSw h2; go_simp)
  try simp only [nrm, Act.put]
  refine wpAnyH_ready (rs := [10]) (by kernel_rfl) (by simp) ?_
  refine AllReadyH.cons rfl (fun K hK => ?_) AllReadyH.nil
  skip
  obtain ⟨⟨q0, q1⟩, u0, u1⟩ := id HG.out
  have GG : Hid _ := (C2.set0 (.int .i64 k) HG.out).set1 (.int .i64 t)
  have hK2 : Below w.heap.size w ((w0.drew.setCell ⟨w.heap.size, 0, none⟩ (.int .i64 k)).setCell ⟨w.heap.size, 1, none⟩ (.int .i64 t)) := ((HA.out.drew).setCell (Nat.le_refl _) _).setCell (Nat.le_refl _) _
  go_simp
  refine hK.out _ _ (hK2) (fun hHeld => ?_)
  clear hK K
  refine wpAnyH_done (by kernel_rfl) ?_ _
  have HB : Hid (Below w.heap.size w ((w0.drew.setCell ⟨w.heap.size, 0, none⟩ (.int .i64 k)).setCell ⟨w.heap.size, 1, none⟩ (.int .i64 t))) := hHeld
  clear hHeld hK2
  go_wp2
  obtain ⟨⟨q0, q1⟩, -⟩ := GG.out
  exact bodyPost_ret (v := .agg #[.int .i64 k, .int .i64 t]) (by simp [results, Tryz.results92, go_sem, q0, q1]) rfl ⟨rfl, HB.out⟩

end Go.Proofs.YthcgdhlemieboaaGreatDoor
