/- Drawn labels, some spoilt. -/
import Derived.Test.YtfmhdjnambnglaaDrx
namespace Go.Proofs.Ytfmhdjnambnglaa
open Go.RowKit
set_option linter.unusedSimpArgs false
set_option linter.unusedVariables false

theorem Rdr.alloc {w : World} {r p : Nat} (h : Rdr w r p) (o : Obj) : Rdr (w.alloc o) r p := h.below ((Below.refl _ _).alloc (Nat.le_refl _) o)

/-- Two cells of a block that may be written. -/
def Pair (x : World) (b : Nat) (v0 v1 : Value) : Prop := x.cell? ⟨b, 0, none⟩ = some v0 ∧ x.cell? ⟨b, 1, none⟩ = some v1 ∧ x.frozen? ⟨b, 0, none⟩ = false ∧ x.frozen? ⟨b, 1, none⟩ = false
theorem Pair.new (x : World) (a b : Int) (t : TypeId) : Pair (x.alloc (.cells #[.int .i64 a, .int .i64 b] t)) x.heap.size (.int .i64 a) (.int .i64 b) := ⟨by simp [go_sem], by simp [go_sem], by simp [go_sem], by simp [go_sem]⟩
theorem Pair.oth {r : Nat} {x x' : World} {b : Nat} {v0 v1 : Value} (h : Pair x b v0 v1) (k : Oth r x x') (hb : b ≠ r) : Pair x' b v0 v1 :=
  ⟨k.cell hb h.1, k.cell hb h.2.1, k.frozen hb h.1 h.2.2.1, k.frozen hb h.2.1 h.2.2.2⟩
theorem Pair.below {x x' : World} {b : Nat} {v0 v1 : Value} (h : Pair x b v0 v1) (k : Below x.heap.size x x') : Pair x' b v0 v1 :=
  ⟨cell_later k h.1, cell_later k h.2.1, frozen_later k h.1 h.2.2.1, frozen_later k h.2.1 h.2.2.2⟩
theorem Pair.alloc {x : World} {b : Nat} {v0 v1 : Value} (h : Pair x b v0 v1) (o : Obj) : Pair (x.alloc o) b v0 v1 := h.below ((Below.refl _ _).alloc (Nat.le_refl _) o)
theorem Pair.lt {x : World} {b : Nat} {v0 v1 : Value} (h : Pair x b v0 v1) : b < x.heap.size := World.block_lt_of_cell? _ _ h.1

set_option maxHeartbeats 2000000 in
theorem l71Odd_any (w : World) (r p : Nat) (h : Rdr w r p) (hp : p ≤ 998000) :
    Calls Try.prog 56 #[.pointer (some ⟨r, 0, none⟩)] w fun e w' => ∃ k t, e = .returned (.agg #[.int .i64 k, .int .i64 t]) ∧ ((-1 ≤ k ∧ k ≤ 8) ∧ (-1 ≤ t ∧ t ≤ 8)) ∧ Rd2 w' r (p + 4) ∧ Oth r w w' := by
  have hlt := h.lt
  go_enter Try.func56, Try.ntmps56
  go_wp2_with fail
  refine (l71Label_any _ r p (h.alloc _) (by omega)).mono ?_
  rintro e w1 ⟨k, t, rfl, ⟨hk, ht⟩, ⟨q, hq, hR⟩, hO⟩
  have PZ := (Pair.new w 0 0 32).oth hO (by omega)
  have s1 : w.heap.size + 1 ≤ w1.heap.size := by have := hO.size; simpa using this
  have HO : Hid (Oth r w w1) := ((Oth.refl r w).alloc _).trans hO
  have HR : Hid (Rdr w1 r q) := hR
  clear hO hR
  go_wp2_with fail
  refine (pick_r _ r q 12 (HR.out.alloc _) (by omega) (by omega) (by omega)).mono ?_
  rintro e w2 ⟨n, rfl, n0, n1, hR2, hO2⟩
  have PY := (Pair.new w1 k t 32).oth hO2 (by omega)
  replace PZ := (PZ.alloc _).oth hO2 (by omega)
  have s2 : w1.heap.size + 1 ≤ w2.heap.size := by have := hO2.size; simpa using this
  have HO2 : Hid (Oth r w w2) := (HO.out.alloc _).trans hO2
  have HR2 : Hid (Rdr w2 r (q + 1)) := hR2
  clear hO2 hR2 HO HR
  have ne1 : ¬ w1.heap.size = w.heap.size := by omega
  have ne2 : ¬ w.heap.size = w1.heap.size := by omega
  have hn : n = 0 ∨ n = 1 ∨ 2 ≤ n := by omega
  rcases hn with rfl | rfl | hn
  · go_wp2_with fail
    refine (pick_r _ r (q + 1) 2 (HR2.out.alloc _) (by omega) (by omega) (by omega)).mono ?_
    rintro e w3 ⟨m, rfl, m0, m1, hR3, hO3⟩
    have PT := (Pair.new w2 (-1) 8 3).oth hO3 (by omega)
    replace PZ := (PZ.alloc _).oth hO3 (by omega)
    replace PY := (PY.alloc _).oth hO3 (by omega)
    have HO3 : Hid (Oth r w w3) := (HO2.out.alloc _).trans hO3
    have HR3 : Hid (Rdr w3 r (q + 2)) := hR3
    clear hO3 hR3 HO2 HR2
    obtain ⟨t0, t1, _, _⟩ := PT
    obtain ⟨z0, z1, g0, g1⟩ := PZ
    obtain ⟨y0, y1, e0, e1⟩ := PY
    have hm : m = 0 ∨ m = 1 := by omega
    rcases hm with rfl | rfl
    · go_wp2
      refine bodyPost_ret (v := .agg #[.int .i64 (-1), .int .i64 t]) (by simp [results, Try.results56, go_sem, z0, z1, y0, y1, ne1, ne2]) rfl ⟨(-1), t, rfl, ⟨⟨by omega, by omega⟩, by omega, by omega⟩, ⟨q + 2, by omega, HR3.out.same (fun n hn => ?_)⟩, ?_⟩
      · rw [Below.heap_setCell _ _ _ _ (by simp; omega), Below.heap_setCell _ _ _ _ (by simp; omega), Below.heap_setCell _ _ _ _ (by simp; omega)]
      · exact ((HO3.out.new (by simp; omega) _).new (by simp) _).new (by simp) _
    · go_wp2
      refine bodyPost_ret (v := .agg #[.int .i64 8, .int .i64 t]) (by simp [results, Try.results56, go_sem, z0, z1, y0, y1, ne1, ne2]) rfl ⟨8, t, rfl, ⟨⟨by omega, by omega⟩, by omega, by omega⟩, ⟨q + 2, by omega, HR3.out.same (fun n hn => ?_)⟩, ?_⟩
      · rw [Below.heap_setCell _ _ _ _ (by simp; omega), Below.heap_setCell _ _ _ _ (by simp; omega), Below.heap_setCell _ _ _ _ (by simp; omega)]
      · exact ((HO3.out.new (by simp; omega) _).new (by simp) _).new (by simp) _
  · go_wp2_with fail
    refine (pick_r _ r (q + 1) 2 (HR2.out.alloc _) (by omega) (by omega) (by omega)).mono ?_
    rintro e w3 ⟨m, rfl, m0, m1, hR3, hO3⟩
    have PT := (Pair.new w2 (-1) 8 3).oth hO3 (by omega)
    replace PZ := (PZ.alloc _).oth hO3 (by omega)
    replace PY := (PY.alloc _).oth hO3 (by omega)
    have HO3 : Hid (Oth r w w3) := (HO2.out.alloc _).trans hO3
    have HR3 : Hid (Rdr w3 r (q + 2)) := hR3
    clear hO3 hR3 HO2 HR2
    obtain ⟨t0, t1, _, _⟩ := PT
    obtain ⟨z0, z1, g0, g1⟩ := PZ
    obtain ⟨y0, y1, e0, e1⟩ := PY
    have hm : m = 0 ∨ m = 1 := by omega
    rcases hm with rfl | rfl
    · go_wp2
      refine bodyPost_ret (v := .agg #[.int .i64 k, .int .i64 (-1)]) (by simp [results, Try.results56, go_sem, z0, z1, y0, y1, ne1, ne2]) rfl ⟨k, (-1), rfl, ⟨⟨by omega, by omega⟩, by omega, by omega⟩, ⟨q + 2, by omega, HR3.out.same (fun n hn => ?_)⟩, ?_⟩
      · rw [Below.heap_setCell _ _ _ _ (by simp; omega), Below.heap_setCell _ _ _ _ (by simp; omega), Below.heap_setCell _ _ _ _ (by simp; omega)]
      · exact ((HO3.out.new (by simp; omega) _).new (by simp) _).new (by simp) _
    · go_wp2
      refine bodyPost_ret (v := .agg #[.int .i64 k, .int .i64 8]) (by simp [results, Try.results56, go_sem, z0, z1, y0, y1, ne1, ne2]) rfl ⟨k, 8, rfl, ⟨⟨by omega, by omega⟩, by omega, by omega⟩, ⟨q + 2, by omega, HR3.out.same (fun n hn => ?_)⟩, ?_⟩
      · rw [Below.heap_setCell _ _ _ _ (by simp; omega), Below.heap_setCell _ _ _ _ (by simp; omega), Below.heap_setCell _ _ _ _ (by simp; omega)]
      · exact ((HO3.out.new (by simp; omega) _).new (by simp) _).new (by simp) _
  · obtain ⟨z0, z1, g0, g1⟩ := PZ
    obtain ⟨y0, y1, e0, e1⟩ := PY
    go_wp2
    refine bodyPost_ret (v := .agg #[.int .i64 k, .int .i64 t]) (by simp [results, Try.results56, go_sem, z0, z1, y0, y1, ne1, ne2]) rfl ⟨k, t, rfl, ⟨⟨by omega, by omega⟩, by omega, by omega⟩, ⟨q + 1, by omega, HR2.out.same (fun n hn => ?_)⟩, ?_⟩
    · rw [Below.heap_setCell _ _ _ _ (by simp; omega), Below.heap_setCell _ _ _ _ (by simp; omega)]
    · exact (HO2.out.new (by simp) _).new (by simp) _

end Go.Proofs.Ytfmhdjnambnglaa
