/- Rows of cells, one a place: as they lie in memory, and in a block of their own. -/
import Derived.Test.YtlhfbhidgabgbaaFrs
import Derived.Test.YtlhfbhidgabgbaaSqx
namespace Go.Proofs.Ytlhfbhidgabgbaa
open Go.RowKit
set_option linter.unusedSimpArgs false
set_option linter.unusedVariables false
attribute [local go_sem] World.cell?_alloc_some

/-- A slice, as it lies in memory, a cell a place. -/
def GRep {α : Type} (f : α → Value) (w : World) (s : Value) (xs : List α) : Prop := ∃ a c, s = .slice a xs.length c ∧ xs.length ≤ c ∧ c ≤ maxLen ∧
  (∀ i (hi : i < xs.length), ∃ b off, a = some ⟨b, off, none⟩ ∧ w.cell? ⟨b, off + i, none⟩ = some (f xs[i]))
/-- The same, in a block of its own. -/
def GOwn {α : Type} (f : α → Value) (w : World) (s : Value) (xs : List α) (bs : List Nat) : Prop := (xs.length = 0 ∧ (∃ a c, s = .slice a 0 c ∧ c ≤ maxLen) ∧ bs = []) ∨
  (0 < xs.length ∧ ∃ (g c : Nat), s = .slice (some ⟨g, 0, none⟩) xs.length c ∧ xs.length ≤ c ∧ c ≤ maxLen ∧ w.there g 0 xs.length ∧ bs = [g] ∧ ∀ i (hi : i < xs.length), w.cell? ⟨g, i, none⟩ = some (f xs[i]))
theorem GRep.on {α : Type} {f : α → Value} {w w' : World} (hw : ∀ a v, w.cell? a = some v → w'.cell? a = some v) {s : Value} {xs : List α} (h : GRep f w s xs) : GRep f w' s xs := by
  obtain ⟨a, c, rfl, hl, hc, hcell⟩ := h
  refine ⟨a, c, rfl, hl, hc, fun i hi => ?_⟩
  obtain ⟨b, off, ha, h0⟩ := hcell i hi
  exact ⟨b, off, ha, hw _ _ h0⟩
theorem GRep.below {α : Type} {f : α → Value} {w w' : World} (hb : Below w.heap.size w w') {s : Value} {xs : List α} (h : GRep f w s xs) : GRep f w' s xs := h.on (fun _ _ h => cell_later hb h)
theorem GOwn.frame {α : Type} {f : α → Value} {w w' : World} {s : Value} {xs : List α} {bs : List Nat} (hb : ∀ b ∈ bs, w'.heap[b]? = w.heap[b]?) (h : GOwn f w s xs bs) : GOwn f w' s xs bs := by
  rcases h with h | ⟨h0, g, c, rfl, hlc, hcm, ht, rfl, hr⟩
  · exact .inl h
  · exact .inr ⟨h0, g, c, rfl, hlc, hcm, there_same (hb g (by simp)) ht, rfl, fun i hi => (World.cell?_of_block (w := w) (a := ⟨g, i, none⟩) (hb g (by simp))).trans (hr i hi)⟩
theorem GOwn.rep {α : Type} {f : α → Value} {w : World} {s : Value} {xs : List α} {bs : List Nat} (h : GOwn f w s xs bs) : GRep f w s xs := by
  rcases h with ⟨h0, ⟨a, c, rfl, hc⟩, _⟩ | ⟨h0, g, c, rfl, hlc, hcm, ht, rfl, hr⟩
  · exact ⟨a, c, by rw [h0], by omega, hc, fun i hi => by omega⟩
  · exact ⟨_, c, rfl, hlc, hcm, fun i hi => ⟨g, 0, rfl, by rw [Nat.zero_add]; exact hr i hi⟩⟩
theorem infoInt : (Try.prog.info? 3).map (fun i => (i.zero, i.size, i.bytes)) = some (some (.int .i64 0), 1, 8) := by kernel_rfl

theorem SI1 {w wz : World} {a1 a2 : Addr} {v1 v2 : Value} (h : wz.cell? a1 = some v1 ∧ wz.cell? a2 = some v2 ∧ Below w.heap.size w wz) : wz.drew.cell? a1 = some v1 ∧ wz.drew.cell? a2 = some v2 ∧ Below w.heap.size w wz.drew := ⟨h.1, h.2.1, h.2.2.drew⟩

set_option maxHeartbeats 1000000 in
theorem eqIntS_same {v v' : Value} {zs : List Int} {w : World} (h : GRep (Value.int .i64) w v zs) (h' : GRep (Value.int .i64) w v' zs) :
    Calls Try.prog 31 #[v, v'] w fun e w' => e = .returned (.bool true) ∧ Below w.heap.size w w' := by
  obtain ⟨a, c, rfl, hlc, hcm, hcell⟩ := h
  obtain ⟨a', c', rfl, hlc', hcm', hcell'⟩ := h'
  have hlm : (zs.length : Int) ≤ 9223372036854775807 := by unfold maxLen at hcm; omega
  have HC : Hid _ := hcell
  have HC' : Hid _ := hcell'
  clear hcell hcell'
  go_enter Try.func31, Try.ntmps31
  go_wp2
  go_loopw [5] (fun j wr => ∃ (i : Nat), i ≤ zs.length ∧ j = .int .i64 i ∧ Below w.heap.size w wr) (fun j _ => zs.length - (intOf j).toNat)
  case atStart => exact ⟨0, by omega, rfl, Below.refl _ _⟩
  case round =>
    obtain ⟨i, hi, rfl, hbr⟩ := hrel
    by_cases hlt : i < zs.length
    · obtain ⟨b, off, rfl, k0⟩ := HC.out i hlt
      obtain ⟨b', off', rfl, m0⟩ := HC'.out i hlt
      replace k0 := cell_later hbr k0
      replace m0 := cell_later hbr m0
      have i0' : (0 : Int) ≤ (i : Int) := by omega
      have i1' : (i : Int) < (zs.length : Int) := by omega
      go_wp2_with fail
      refine wp_region_held (S := (fun wz => wz.cell? ⟨b, off + i, none⟩ = some (.int .i64 zs[i]) ∧ wz.cell? ⟨b', off' + i, none⟩ = some (.int .i64 zs[i]) ∧ Below w.heap.size w wz)) (by kernel_rfl) ?_
      change wpAnyH _ _ _ _ _ _ _ _ (World.drew _)
      have hHeld := SI1 ⟨k0, m0, hbr⟩
      refine' wpAnyH_take (i := 0) (v := _) rfl (by kernel_rfl) (by kernel_rfl) (by kernel_rfl) (fun _ _ _ h => h) (Or.inl ⟨by rfl, ?hy1⟩) hHeld ?hn1
      case hy1 => (intro wz hSw; (try dsimp only at hSw); go_simp; first | done | with_reducible rfl)
      try simp only [List.getElem_toArray, List.getElem_cons_zero, List.getElem_cons_succ, Act.put, List.setIfInBounds_toArray, List.set_cons_zero, List.set_cons_succ]
      refine' wpAnyH_take (i := 1) (v := _) rfl (by kernel_rfl) (by kernel_rfl) (by kernel_rfl) (fun _ _ _ h => h) (Or.inl ⟨by rfl, ?hy2⟩) hHeld ?hn2
      case hy2 => (intro wz hSw; (try dsimp only at hSw); go_simp; first | done | with_reducible rfl)
      try simp only [List.getElem_toArray, List.getElem_cons_zero, List.getElem_cons_succ, Act.put, List.setIfInBounds_toArray, List.set_cons_zero, List.set_cons_succ]
      refine' wpAnyH_take (i := 2) (v := _) rfl (by kernel_rfl) (by kernel_rfl) (by kernel_rfl) (fun _ _ _ h => h) (Or.inl ⟨by rfl, ?hy3⟩) hHeld ?hn3
      case hy3 => (intro wz hSw; (try dsimp only at hSw); go_simp; first | done | with_reducible rfl)
      try simp only [List.getElem_toArray, List.getElem_cons_zero, List.getElem_cons_succ, Act.put, List.setIfInBounds_toArray, List.set_cons_zero, List.set_cons_succ]
      refine' wpAnyH_take (i := 3) (v := _) rfl (by kernel_rfl) (by kernel_rfl) (by kernel_rfl) (fun _ _ _ h => h) (Or.inl ⟨by rfl, ?hy4⟩) hHeld ?hn4
      case hy4 => (intro wz hSw; (try dsimp only at hSw); go_simp; first | done | with_reducible rfl)
      try simp only [List.getElem_toArray, List.getElem_cons_zero, List.getElem_cons_succ, Act.put, List.setIfInBounds_toArray, List.set_cons_zero, List.set_cons_succ]
      refine' wpAnyH_take (i := 4) (v := _) rfl (by kernel_rfl) (by kernel_rfl) (by kernel_rfl) (fun _ _ _ h => h) (Or.inl ⟨by rfl, ?hy5⟩) hHeld ?hn5
      case hy5 => (intro wz hSw; (try dsimp only at hSw); go_simp; first | done | with_reducible rfl)
      try simp only [List.getElem_toArray, List.getElem_cons_zero, List.getElem_cons_succ, Act.put, List.setIfInBounds_toArray, List.set_cons_zero, List.set_cons_succ]
      refine' wpAnyH_take (i := 5) (v := _) rfl (by kernel_rfl) (by kernel_rfl) (by kernel_rfl) (fun _ _ _ h => h) (Or.inl ⟨by rfl, ?hy6⟩) hHeld ?hn6
      case hy6 => (intro wz hSw; (try dsimp only at hSw); go_simp; first | done | with_reducible rfl)
      try simp only [List.getElem_toArray, List.getElem_cons_zero, List.getElem_cons_succ, Act.put, List.setIfInBounds_toArray, List.set_cons_zero, List.set_cons_succ]
      refine' wpAnyH_take (i := 6) (v := _) rfl (by kernel_rfl) (by kernel_rfl) (by kernel_rfl) (fun _ _ _ h => h) (Or.inl ⟨by rfl, ?hy7⟩) hHeld ?hn7
      case hy7 => (intro wz hSw; (try dsimp only at hSw); go_simp; first | done | with_reducible rfl)
      try simp only [List.getElem_toArray, List.getElem_cons_zero, List.getElem_cons_succ, Act.put, List.setIfInBounds_toArray, List.set_cons_zero, List.set_cons_succ]
      refine' wpAnyH_take (i := 7) (v := _) rfl (by kernel_rfl) (by kernel_rfl) (by kernel_rfl) (fun _ _ _ h => h) (Or.inl ⟨by rfl, ?hy8⟩) hHeld ?hn8
      case hy8 => (intro wz hSw; (try dsimp only at hSw); go_simp; first | done | with_reducible rfl)
      try simp only [List.getElem_toArray, List.getElem_cons_zero, List.getElem_cons_succ, Act.put, List.setIfInBounds_toArray, List.set_cons_zero, List.set_cons_succ]
      refine' wpAnyH_take (i := 8) (v := _) rfl (by kernel_rfl) (by kernel_rfl) (by kernel_rfl) (fun _ _ _ h => h) (Or.inl ⟨by rfl, ?hy9⟩) hHeld ?hn9
      case hy9 => (intro wz hSw; (try dsimp only at hSw); go_simp; first | done | with_reducible rfl)
      try simp only [List.getElem_toArray, List.getElem_cons_zero, List.getElem_cons_succ, Act.put, List.setIfInBounds_toArray, List.set_cons_zero, List.set_cons_succ]
      refine wpAnyH_done (by kernel_rfl) ?_ _
      obtain ⟨_, _, hB9⟩ := hHeld
      go_wp2
      exact ⟨⟨i + 1, by omega, by simp, hB9⟩, by simp [intOf]; omega⟩
    · have : i = zs.length := by omega
      subst this
      have HB : Hid (Below w.heap.size w wr) := hbr
      clear hbr
      go_wp2
      go_ret
      exact ⟨rfl, HB.out⟩

end Go.Proofs.Ytlhfbhidgabgbaa

namespace Go.Proofs.Ytlhfbhidgabgbaa
open Go.RowKit
set_option linter.unusedSimpArgs false
set_option linter.unusedVariables false
attribute [local go_sem] World.cell?_alloc_some

theorem infoWrite : (Try.prog.info? 93).map (fun i => (i.zero, i.size, i.bytes)) = some (some (.agg #[.int .i64 0, .int .i64 0]), 2, 16) := by kernel_rfl

theorem infoSaid : (Try.prog.info? 84).map (fun i => (i.zero, i.size, i.bytes)) = some (some (.agg #[.int .i64 0, .int .i64 0]), 2, 16) := by kernel_rfl

end Go.Proofs.Ytlhfbhidgabgbaa

namespace Go.Proofs.Ytlhfbhidgabgbaa
open Go.RowKit
set_option linter.unusedSimpArgs false
set_option linter.unusedVariables false

def nf (k : Int) (n : Nat) : List Int := (List.range n).map fun (i : Nat) => k + (i : Int)
def pf (k : Int) (n : Nat) : List (Int × Int) := (List.range n).map fun (i : Nat) => (k + 2 * (i : Int), k + 2 * (i : Int) + 1)

set_option maxHeartbeats 2000000 in
theorem markIntS_any {v : Value} {zs : List Int} {bs : List Nat} {k : Int} {w : World} (h : GOwn (Value.int .i64) w v zs bs) (hk0 : 0 ≤ k) (hk1 : k + zs.length ≤ 33554432) :
    Calls Try.prog 34 #[v, .int .i64 k] w fun e w' => e = .returned (.int .i64 (k + zs.length)) ∧ Fr bs w w' ∧ GOwn (Value.int .i64) w' v (nf k zs.length) bs := by
  rcases h with ⟨h0, ⟨a, c, rfl, hcm⟩, rfl⟩ | ⟨h0, g, c, rfl, hlc, hcm, ht, rfl, -⟩
  · have hz : zs = [] := List.eq_nil_of_length_eq_zero h0
    subst hz
    go_enter Try.func34, Try.ntmps34
    go_wp2
    refine wp_loop_rounds 1 ?_
    rw [rounds_succ]
    go_wp2
    go_ret
    exact ⟨by simp, Fr.refl _ _, .inl ⟨by simp [nf], ⟨_, _, rfl, hcm⟩, rfl⟩⟩
  · have HT : Hid _ := ht
    clear ht
    go_enter Try.func34, Try.ntmps34
    go_wp2
    go_loopw [1, 5] (fun o j wr => ∃ (i : Nat) (z : Int), i ≤ zs.length ∧ j = .int .i64 i ∧ o = .int .i64 z ∧ Hid (z = k + (i : Int)) ∧ Fr [g] w wr ∧ Hid (wr.there g 0 zs.length) ∧ Hid (∀ q, q < i → wr.cell? ⟨g, q, none⟩ = some (.int .i64 (k + (q : Int))))) (fun _ j _ => zs.length - (intOf j).toNat)
    case atStart => exact ⟨0, k, by omega, rfl, rfl, (show k = k + ((0 : Nat) : Int) by simp), Fr.refl _ _, HT, (show ∀ q, q < 0 → _ from fun q hq => by omega)⟩
    case round =>
      obtain ⟨i, z, hi, rfl, rfl, HZ, hfr, HTR, HQ⟩ := hrel
      by_cases hlt : i < zs.length
      · have hth : wr.there g 0 zs.length := HTR.out
        have t0 := hth i hlt
        rw [Nat.zero_add] at t0
        obtain ⟨u0, x0⟩ := Option.isSome_iff_exists.1 t0.1
        have f0 := t0.2
        have HX0 : Hid (wr.cell? ⟨g, i, none⟩ = some u0) := x0
        have hz := HZ.out
        have v1 := w64 (z + 1) (by omega)
        have i0' : (0 : Int) ≤ (i : Int) := by omega
        have i1' : (i : Int) < (zs.length : Int) := by omega
        have HE : Hid (z + 1 = k + ((i + 1 : Nat) : Int)) := (show z + 1 = k + ((i + 1 : Nat) : Int) by omega)
        have HFR : Hid (Fr [g] w wr) := hfr
        clear hth t0 hz hfr
        go_wp2
        refine ⟨⟨i + 1, z + 1, by omega, by simp, rfl, HE, HFR.out.setCell (p := ⟨g, i, none⟩) (by simp) _, World.there_setCells HTR.out g i [.int .i64 z], ?_⟩, by simp [intOf]; omega⟩
        refine (show ∀ q, q < i + 1 → _ from fun q hq => ?_)
        by_cases hqe : q = i
        · subst hqe
          rw [← HZ.out]
          exact World.cell?_setCell_same _ _ _ HX0.out
        · exact (World.cell?_setCell_other _ _ _ _ (fun e => hqe (by simpa using e.symm))).trans (HQ.out q (by omega))
      · have hie : i = zs.length := by omega
        subst hie
        have HFR : Hid _ := hfr
        clear hfr
        go_wp2
        go_ret
        refine ⟨by rw [HZ.out]; rfl, HFR.out, .inr ⟨by simpa [nf] using h0, g, c, by simp [nf], by simpa [nf] using hlc, hcm, by simpa [nf] using HTR.out, rfl, fun i hi => ?_⟩⟩
        have hi' : i < zs.length := by simpa [nf] using hi
        have := HQ.out i hi'
        simpa [nf] using this

set_option maxHeartbeats 2000000 in
theorem heldIntS_any {v : Value} {n : Nat} {k : Int} {w : World} (h : GRep (Value.int .i64) w v (nf k n)) (hk0 : 0 ≤ k) (hk1 : k + n ≤ 33554432) :
    Calls Try.prog 35 #[v, .int .i64 k] w fun e w' => e = .returned (.int .i64 (k + n)) ∧ Below w.heap.size w w' := by
  obtain ⟨a, c, rfl, hlc, hcm, hcell⟩ := h
  have hl : (nf k n).length = n := by simp [nf]
  rw [hl] at hlc ⊢
  have HC : Hid (∀ i, i < n → ∃ b off, a = some ⟨b, off, none⟩ ∧ w.cell? ⟨b, off + i, none⟩ = some (.int .i64 (k + (i : Int)))) := (show ∀ i, i < n → _ by
    intro i hi
    obtain ⟨b, off, ha, h0⟩ := hcell i (by rw [hl]; exact hi)
    exact ⟨b, off, ha, by simpa [nf] using h0⟩)
  clear hcell hl
  go_enter Try.func35, Try.ntmps35
  go_wp2
  go_loopw [1, 5] (fun o j wr => ∃ (i : Nat) (z : Int), i ≤ n ∧ j = .int .i64 i ∧ o = .int .i64 z ∧ Hid (z = k + (i : Int)) ∧ Below w.heap.size w wr) (fun _ j _ => n - (intOf j).toNat)
  case atStart => exact ⟨0, k, by omega, rfl, rfl, (show k = k + ((0 : Nat) : Int) by simp), Below.refl _ _⟩
  case round =>
    obtain ⟨i, z, hi, rfl, rfl, HZ, hbr⟩ := hrel
    by_cases hlt : i < n
    · obtain ⟨b, off, rfl, x0⟩ := HC.out i hlt
      replace x0 := cell_later hbr x0
      have hz := HZ.out
      rw [← hz] at x0
      have v1 := w64 (z + 1) (by omega)
      have i0' : (0 : Int) ≤ (i : Int) := by omega
      have i1' : (i : Int) < (n : Int) := by omega
      have HE : Hid (z + 1 = k + ((i + 1 : Nat) : Int)) := (show z + 1 = k + ((i + 1 : Nat) : Int) by omega)
      have HB : Hid (Below w.heap.size w wr) := hbr
      clear hbr hz
      go_wp2
      exact ⟨⟨i + 1, z + 1, by omega, by simp, rfl, HE, HB.out⟩, by simp [intOf]; omega⟩
    · have hie : i = n := by omega
      subst hie
      have HB : Hid (Below w.heap.size w wr) := hbr
      clear hbr
      go_wp2
      go_ret
      exact ⟨by rw [HZ.out]; rfl, HB.out⟩

end Go.Proofs.Ytlhfbhidgabgbaa

namespace Go.Proofs.Ytlhfbhidgabgbaa
open Go.RowKit
set_option linter.unusedSimpArgs false
set_option linter.unusedVariables false
attribute [local go_sem] World.cell?_alloc_some

/-- Three cells of one block, that may be written. -/
def C3 (w : World) (b : Nat) (v0 v1 v2 : Value) : Prop :=
  (w.cell? ⟨b, 0, none⟩ = some v0 ∧ w.cell? ⟨b, 1, none⟩ = some v1 ∧ w.cell? ⟨b, 2, none⟩ = some v2) ∧ w.frozen? ⟨b, 0, none⟩ = false ∧ w.frozen? ⟨b, 1, none⟩ = false ∧ w.frozen? ⟨b, 2, none⟩ = false
theorem C3.frame {w w' : World} {b : Nat} {v0 v1 v2 : Value} (h : C3 w b v0 v1 v2) (hb : w'.heap[b]? = w.heap[b]?) : C3 w' b v0 v1 v2 := by
  obtain ⟨⟨c0, c1, c2⟩, f0, f1, f2⟩ := h
  have hc : ∀ o, w'.cell? ⟨b, o, none⟩ = w.cell? ⟨b, o, none⟩ := fun o => World.cell?_of_block hb
  have hf : ∀ o, w'.frozen? ⟨b, o, none⟩ = w.frozen? ⟨b, o, none⟩ := fun o => World.frozen?_of_block (a := ⟨b, o, none⟩) hb
  exact ⟨⟨(hc 0).trans c0, (hc 1).trans c1, (hc 2).trans c2⟩, (hf 0).trans f0, (hf 1).trans f1, (hf 2).trans f2⟩
theorem C3.lt {w : World} {b : Nat} {v0 v1 v2 : Value} (h : C3 w b v0 v1 v2) : b < w.heap.size := World.block_lt_of_cell? w _ h.1.1
theorem C3.below {w w' : World} {b : Nat} {v0 v1 v2 : Value} (h : C3 w b v0 v1 v2) (hb : Below w.heap.size w w') : C3 w' b v0 v1 v2 := h.frame (hb.block b h.lt)
theorem C3.new (w : World) (v0 v1 v2 : Value) (T : TypeId) : C3 (w.alloc (.cells #[v0, v1, v2] T)) w.heap.size v0 v1 v2 := by
  refine ⟨⟨?_, ?_, ?_⟩, ?_, ?_, ?_⟩ <;> simp
theorem C3.far {w : World} {b : Nat} {v0 v1 v2 : Value} (h : C3 w b v0 v1 v2) {a : Addr} (ha : a.block ≠ b) (u : Value) : C3 (w.setCell a u) b v0 v1 v2 := h.frame (Below.heap_setCell _ _ _ _ (fun e => ha e.symm))
theorem C3.set0 {w : World} {b : Nat} {v0 v1 v2 : Value} (u : Value) (h : C3 w b v0 v1 v2) : C3 (w.setCell ⟨b, 0, none⟩ u) b u v1 v2 := by
  obtain ⟨⟨c0, c1, c2⟩, f⟩ := h
  refine ⟨⟨?_, ?_, ?_⟩, by simpa only [World.frozen?_setCell] using f⟩
  · exact World.cell?_setCell_same _ _ _ c0
  · exact (World.cell?_setCell_other _ _ _ _ (by simp)).trans c1
  · exact (World.cell?_setCell_other _ _ _ _ (by simp)).trans c2
theorem C3.set1 {w : World} {b : Nat} {v0 v1 v2 : Value} (u : Value) (h : C3 w b v0 v1 v2) : C3 (w.setCell ⟨b, 1, none⟩ u) b v0 u v2 := by
  obtain ⟨⟨c0, c1, c2⟩, f⟩ := h
  refine ⟨⟨?_, ?_, ?_⟩, by simpa only [World.frozen?_setCell] using f⟩
  · exact (World.cell?_setCell_other _ _ _ _ (by simp)).trans c0
  · exact World.cell?_setCell_same _ _ _ c1
  · exact (World.cell?_setCell_other _ _ _ _ (by simp)).trans c2
theorem C3.set2 {w : World} {b : Nat} {v0 v1 v2 : Value} (u : Value) (h : C3 w b v0 v1 v2) : C3 (w.setCell ⟨b, 2, none⟩ u) b v0 v1 u := by
  obtain ⟨⟨c0, c1, c2⟩, f⟩ := h
  refine ⟨⟨?_, ?_, ?_⟩, by simpa only [World.frozen?_setCell] using f⟩
  · exact (World.cell?_setCell_other _ _ _ _ (by simp)).trans c0
  · exact (World.cell?_setCell_other _ _ _ _ (by simp)).trans c1
  · exact World.cell?_setCell_same _ _ _ c2

/-- What came of a program, in blocks of its own. -/
structure ROwn (w : World) (nv wv sv : Value) (zs : List Int) (ws ss : List (Int × Int)) (b0 b1 b2 : List Nat) : Prop where
  n : GOwn (Value.int .i64) w nv zs b0
  wr : LOwn w wv ws b1
  sd : LOwn w sv ss b2
theorem ROwn.frame {w w' : World} {nv wv sv : Value} {zs : List Int} {ws ss : List (Int × Int)} {b0 b1 b2 : List Nat} (h : ROwn w nv wv sv zs ws ss b0 b1 b2) (hb : ∀ b ∈ b0 ++ b1 ++ b2, w'.heap[b]? = w.heap[b]?) : ROwn w' nv wv sv zs ws ss b0 b1 b2 :=
  ⟨GOwn.frame (fun b h => hb b (by simp [h])) h.n, LOwn.frame (fun b h => hb b (by simp [h])) h.wr, LOwn.frame (fun b h => hb b (by simp [h])) h.sd⟩
/-- A block is in one of them alone. -/
def Apart (b0 b1 b2 : List Nat) : Prop := (∀ b ∈ b0, b ∉ b1 ∧ b ∉ b2) ∧ ∀ b ∈ b1, b ∉ b2

end Go.Proofs.Ytlhfbhidgabgbaa
