/- Rows as the laws look at them; labels that are turned; sets and rows that are drawn. -/
import Derived.Test.YthcgdhlemieboaaGreatTkTsh
import Derived.Deep.RegionHeld3
import Derived.Deep.DrawnRows
namespace Go.Proofs.YthcgdhlemieboaaGreat
open Go.RowKit
set_option linter.unusedSimpArgs false
set_option linter.unusedVariables false
attribute [local go_sem] World.cell?_alloc_some

def STn (w : World) (k t : Int) (v : Value) (zs : List Int) (wz : World) : Prop := wz.cell? ⟨w.heap.size, 0, none⟩ = some (.int .i64 k) ∧ wz.cell? ⟨w.heap.size, 1, none⟩ = some (.int .i64 t) ∧ GRep (Value.int .i64) wz v zs ∧ Below w.heap.size w wz ∧ ∃ x y, Pair wz (w.heap.size + 1) x y
theorem STn.start {w : World} {k t : Int} {v : Value} {zs : List Int} (hL : GRep (Value.int .i64) w v zs) (T : TypeId) : STn w k t v zs (World.drew ((w.alloc (.cells #[.int .i64 k, .int .i64 t] T)).alloc (.cells #[.int .i64 0, .int .i64 0] T))) := by
  have A : Below w.heap.size w ((w.alloc (.cells #[.int .i64 k, .int .i64 t] T)).alloc (.cells #[.int .i64 0, .int .i64 0] T)) := ((Below.refl _ _).alloc (Nat.le_refl _) _).alloc (by simp) _
  have P := Pair.new (w.alloc (.cells #[.int .i64 k, .int .i64 t] T)) 0 0 T
  have hs : (w.alloc (.cells #[.int .i64 k, .int .i64 t] T)).heap.size = w.heap.size + 1 := by simp
  rw [hs] at P
  exact ⟨by simp [go_sem], by simp [go_sem], (hL.below A).on (fun _ _ h => h), A.drew, _, _, P⟩
theorem STn.below {w : World} {k t : Int} {v : Value} {zs : List Int} {wz wy : World} (h : STn w k t v zs wz) (hb : Below wz.heap.size wz wy) : STn w k t v zs wy := by
  obtain ⟨h0, h1, h2, h3, x, y, h4⟩ := h
  exact ⟨cell_later hb h0, cell_later hb h1, h2.below hb, Below.then h3 hb h3.size, x, y, h4.below hb⟩
theorem STn.set {w : World} {k t : Int} {v : Value} {zs : List Int} {wz : World} (h : STn w k t v zs wz) (hv : ∀ a n c, v = .slice (some a) n c → a.block < w.heap.size) (u u' : Value) : STn w k t v zs ((wz.setCell ⟨w.heap.size + 1, 0, none⟩ u).setCell ⟨w.heap.size + 1, 1, none⟩ u') := by
  obtain ⟨h0, h1, h2, h3, x, y, h4⟩ := h
  have hne : ∀ b, b ≠ w.heap.size + 1 → ((wz.setCell ⟨w.heap.size + 1, 0, none⟩ u).setCell ⟨w.heap.size + 1, 1, none⟩ u').heap[b]? = wz.heap[b]? := fun b hb => (Below.heap_setCell _ _ _ _ hb).trans (Below.heap_setCell _ _ _ _ hb)
  refine ⟨(World.cell?_of_block (hne _ (by simp))).trans h0, (World.cell?_of_block (hne _ (by simp))).trans h1, ?_, (h3.setCell (by show w.heap.size ≤ w.heap.size + 1; omega) _).setCell (by show w.heap.size ≤ w.heap.size + 1; omega) _, u, u', set_two0 h4.1 h4.2.1, set_two1 h4.1 h4.2.1, by simpa only [World.frozen?_setCell] using h4.2.2.1, by simpa only [World.frozen?_setCell] using h4.2.2.2⟩
  obtain ⟨a, c, rfl, hl, hc, hcell⟩ := h2
  refine ⟨a, c, rfl, hl, hc, fun i hi => ?_⟩
  obtain ⟨b, off, rfl, hx⟩ := hcell i hi
  have := hv _ _ _ rfl
  exact ⟨b, off, rfl, (World.cell?_of_block (hne b (by show b ≠ _; have : b < w.heap.size := this; omega))).trans hx⟩
theorem STn.cells {w : World} {k t : Int} {v : Value} {zs : List Int} {wz : World} (h : STn w k t v zs wz) : ∃ x y, wz.cell? ⟨w.heap.size + 1, 0, none⟩ = some x ∧ wz.cell? ⟨w.heap.size + 1, 1, none⟩ = some y ∧ wz.frozen? ⟨w.heap.size + 1, 0, none⟩ = false ∧ wz.frozen? ⟨w.heap.size + 1, 1, none⟩ = false := by
  obtain ⟨_, _, _, _, x, y, h1, h2, h3, h4⟩ := h
  exact ⟨x, y, h1, h2, h3, h4⟩
theorem GRep.blk {α : Type} {f : α → Value} {w : World} {a : Option Addr} {n c : Nat} {xs : List α} (h : GRep f w (.slice a n c) xs) : ∀ x m k, (Value.slice a n c) = .slice (some x) m k → 0 < xs.length → x.block < w.heap.size := by
  intro x m k he hx
  obtain ⟨a', c', he', hl, hc, hcell⟩ := h
  obtain ⟨b, off, h1, h2⟩ := hcell 0 hx
  cases he; cases he'; cases h1
  exact World.block_lt_of_cell? _ _ h2

theorem labelOf_two (k t : Int) (w : World) :
    Calls Tryz.prog 52 #[.int .i64 k, .int .i64 t] w fun e w' => e = .returned (.agg #[.int .i64 k, .int .i64 t]) ∧ Below w.heap.size w w' := by
  go_enter Tryz.func52, Tryz.ntmps52
  go_wp2
  refine bodyPost_ret (v := .agg #[.int .i64 k, .int .i64 t]) (by simp [results, Tryz.results52, go_sem]) rfl ⟨rfl, ?_⟩
  repeat' (first | exact Below.refl _ _ | assumption | (refine Below.drew ?_) | (refine Below.then ?_ (by assumption) ?_) | (refine Below.alloc ?_ ?_ _) | (refine Below.setCell ?_ ?_ _) | (simp; done) | (simp at *; omega) | omega)

set_option maxHeartbeats 4000000 in
set_option maxRecDepth 20000 in
theorem labelTurned_any {v : Value} {zs : List Int} {w : World} (k t : Int) (hk : 0 ≤ k ∧ k ≤ 7) (ht : 0 ≤ t ∧ t ≤ 7) (hr : rowB zs 3 = true) (hp : 0 < zs.length) (hL : GRep (Value.int .i64) w v zs) :
    Calls Tryz.prog 27 #[.agg #[.int .i64 k, .int .i64 t], v] w fun e w' => e = .returned (.agg #[.int .i64 (turnI k zs), .int .i64 (turnI t zs)]) ∧ Below w.heap.size w w' := by
  have hS := STn.start (k := k) (t := t) hL 59
  obtain ⟨la, lc, rfl, -⟩ := id hL
  have HV : Hid (∀ x m q, (Value.slice la zs.length lc) = .slice (some x) m q → x.block < w.heap.size) := (show ∀ x m q, _ from fun x m q he => GRep.blk hL x m q he hp)
  clear hL
  go_enter Tryz.func27, Tryz.ntmps27
  go_upto_region 1 with fail
  refine wp_region_held (S := STn w k t (.slice la zs.length lc) zs) (by kernel_rfl) ?_
  change wpAnyH _ _ _ _ _ _ _ _ (World.drew _)
  have hHeld := hS
  clear hS
  generalize (World.drew _) = wS at hHeld ⊢
  refine' wpAnyH_take (i := 0) (v := .agg #[.int .i64 k, .int .i64 t]) rfl (by kernel_rfl) (by kernel_rfl) (by kernel_rfl) (fun _ _ _ h => h) (Or.inl ⟨by rfl, ?hy108⟩) hHeld ?hn108
  case hy108 => (intro wz hSw; obtain ⟨j0, j1, _⟩ := hSw; go_simp)
  try simp only [nrm, Act.put]
  refine' wpAnyH_take (i := 2) (v := _) rfl (by kernel_rfl) (by kernel_rfl) (by kernel_rfl) (fun _ _ _ h => h) (Or.inl ⟨by rfl, ?hy109⟩) hHeld ?hn109
  case hy109 => (intro wz hSw; go_simp; first | done | with_reducible rfl)
  try simp only [nrm, Act.put]
  refine' wpAnyH_take (i := 4) (v := .agg #[.int .i64 k, .int .i64 t]) rfl (by kernel_rfl) (by kernel_rfl) (by kernel_rfl) (fun _ _ _ h => h) (Or.inl ⟨by rfl, ?hy110⟩) hHeld ?hn110
  case hy110 => (intro wz hSw; obtain ⟨j0, j1, _⟩ := hSw; go_simp)
  try simp only [nrm, Act.put]
  refine' wpAnyH_take (i := 6) (v := _) rfl (by kernel_rfl) (by kernel_rfl) (by kernel_rfl) (fun _ _ _ h => h) (Or.inl ⟨by rfl, ?hy111⟩) hHeld ?hn111
  case hy111 => (intro wz hSw; go_simp; first | done | with_reducible rfl)
  try simp only [nrm, Act.put]
  refine wpAnyH_ready (rs := [1]) (by kernel_rfl) (by simp) ?_
  refine AllReadyH.cons rfl (fun K hK => ?_) AllReadyH.nil
  go_simp
  refine Calls.mono (knowers_any k t _) ?_
  rintro e' w9 ⟨rfl, hbx⟩
  replace hHeld := hHeld.below hbx
  clear hbx
  refine hK.out _ _ (hHeld) (fun hHeld => ?_)
  clear hK K
  refine wpAnyH_ready (rs := [3]) (by kernel_rfl) (by simp) ?_
  refine AllReadyH.cons rfl (fun K hK => ?_) AllReadyH.nil
  go_simp
  refine Calls.mono (turned_any k hk.1 hk.2 hr hHeld.2.2.1) ?_
  rintro e' w9 ⟨rfl, h9⟩
  subst h9
  refine hK.out _ _ (hHeld) (fun hHeld => ?_)
  clear hK K
  refine wpAnyH_ready (rs := [5]) (by kernel_rfl) (by simp) ?_
  refine AllReadyH.cons rfl (fun K hK => ?_) AllReadyH.nil
  go_simp
  refine Calls.mono (trusters_any k t _) ?_
  rintro e' w9 ⟨rfl, hbx⟩
  replace hHeld := hHeld.below hbx
  clear hbx
  refine hK.out _ _ (hHeld) (fun hHeld => ?_)
  clear hK K
  refine wpAnyH_ready (rs := [7]) (by kernel_rfl) (by simp) ?_
  refine AllReadyH.cons rfl (fun K hK => ?_) AllReadyH.nil
  go_simp
  refine Calls.mono (turned_any t ht.1 ht.2 hr hHeld.2.2.1) ?_
  rintro e' w9 ⟨rfl, h9⟩
  subst h9
  refine hK.out _ _ (hHeld) (fun hHeld => ?_)
  clear hK K
  refine wpAnyH_ready (rs := [8]) (by kernel_rfl) (by simp) ?_
  refine AllReadyH.cons rfl (fun K hK => ?_) AllReadyH.nil
  go_simp
  refine Calls.mono (labelOf_two _ _ _) ?_
  rintro e' w9 ⟨rfl, hbx⟩
  replace hHeld := hHeld.below hbx
  clear hbx
  refine hK.out _ _ (hHeld) (fun hHeld => ?_)
  clear hK K
  refine wpAnyH_ready (rs := [9]) (by kernel_rfl) (by simp) ?_
  refine AllReadyH.cons rfl (fun K hK => ?_) AllReadyH.nil
  obtain ⟨x0, x1, c0, c1, f0, f1⟩ := STn.cells hHeld
  have GS := STn.set (u := Value.int .i64 (turnI k zs)) (u' := Value.int .i64 (turnI t zs)) hHeld HV.out
  have R0 := set_two0 (v0 := .int .i64 (turnI k zs)) (v1 := .int .i64 (turnI t zs)) c0 c1
  have R1 := set_two1 (v0 := .int .i64 (turnI k zs)) (v1 := .int .i64 (turnI t zs)) c0 c1
  go_simp
  clear c0 c1 f0 f1 x0 x1
  generalize (World.setCell (World.setCell _ ⟨w.heap.size + 1, 0, none⟩ _) ⟨w.heap.size + 1, 1, none⟩ _) = wF at GS R0 R1 ⊢
  refine hK.out _ _ (GS) (fun hHeld => ?_)
  clear hK K
  refine wpAnyH_done (by kernel_rfl) ?_ _
  have HBF : Hid (Below w.heap.size w wF) := hHeld.2.2.2.1
  clear hHeld GS
  go_wp2
  refine bodyPost_ret (v := .agg #[.int .i64 (turnI k zs), .int .i64 (turnI t zs)]) (by simp [results, Tryz.results27, go_sem, R0, R1]) rfl ⟨rfl, HBF.out⟩

def DsPost (w : World) (e : Ending) (w' : World) : Prop := ∃ (s : Int) (zs : List Int) (g c : Nat), e = .returned (.tuple #[.int .i64 s, .slice (some ⟨g, 0, none⟩) zs.length c]) ∧ -1 ≤ s ∧ s ≤ 8 ∧ Below w.heap.size w w' ∧ GRep (Value.int .i64) w' (.slice (some ⟨g, 0, none⟩) zs.length c) zs ∧ zs.length ≤ 9 ∧ w.heap.size ≤ g
end Go.Proofs.YthcgdhlemieboaaGreat
