/- A row of labels marked, and held. -/
import Derived.Test.YtfmhdjnambnglaaRwx
import Derived.Test.YtfmhdjnambnglaaMkA
namespace Go.Proofs.Ytfmhdjnambnglaa
open Go.RowKit
set_option linter.unusedSimpArgs false
set_option linter.unusedVariables false

set_option maxHeartbeats 2000000 in
theorem markLabelS_all {lv : Value} {ls : List (Int × Int)} {bs : List Nat} {k : Int} {w : World} (h : LOwn w lv ls bs) (hk0 : 0 ≤ k) (hk1 : k + 2 * ls.length ≤ 33554432) :
    Calls Try.prog 86 #[lv, .int .i64 k] w fun e w' => e = .returned (.int .i64 (k + 2 * ls.length)) ∧ Fr bs w w' ∧ LOwn w' lv (pf k ls.length) bs := by
  rcases h with ⟨h0, ⟨a, c, rfl, hcm⟩, rfl⟩ | ⟨h0, g, c, rfl, hlc, hcm, ht, rfl, -⟩
  · have hz : ls = [] := List.eq_nil_of_length_eq_zero h0
    subst hz
    go_enter Try.func86, Try.ntmps86
    go_wp2
    refine wp_loop_rounds 1 ?_
    rw [rounds_succ]
    go_wp2
    go_ret
    exact ⟨by simp, Fr.refl _ _, .inl ⟨by simp [pf], ⟨_, _, rfl, hcm⟩, rfl⟩⟩
  · have HT : Hid _ := ht
    clear ht
    go_enter Try.func86, Try.ntmps86
    go_wp2
    go_loopw [1, 5] (fun o j wr => ∃ (i : Nat) (z : Int), i ≤ ls.length ∧ j = .int .i64 i ∧ o = .int .i64 z ∧ Hid (z = k + 2 * (i : Int)) ∧ Fr [g] w wr ∧ Hid (wr.there g 0 (ls.length * 2)) ∧ Hid (∀ q, q < i → wr.rangeAt g (q * 2) [.int .i64 (k + 2 * (q : Int)), .int .i64 (k + 2 * (q : Int) + 1)])) (fun _ j _ => ls.length - (intOf j).toNat)
    case atStart => exact ⟨0, k, by omega, rfl, rfl, (show k = k + 2 * ((0 : Nat) : Int) by simp), Fr.refl _ _, HT, (show ∀ q, q < 0 → _ from fun q hq => by omega)⟩
    case round =>
      obtain ⟨i, z, hi, rfl, rfl, HZ, hfr, HTR, HQ⟩ := hrel
      by_cases hlt : i < ls.length
      · have hth : wr.there g 0 (ls.length * 2) := HTR.out
        have t0 := hth (i * 2) (by omega)
        have t1 := hth (i * 2 + 1) (by omega)
        rw [Nat.zero_add] at t0 t1
        obtain ⟨u0, x0⟩ := Option.isSome_iff_exists.1 t0.1
        obtain ⟨u1, x1⟩ := Option.isSome_iff_exists.1 t1.1
        have f0 := t0.2
        have f1 := t1.2
        have HX1 : Hid (wr.cell? ⟨g, i * 2 + 1, none⟩ = some u1) := x1
        have HX0 : Hid (wr.cell? ⟨g, i * 2, none⟩ = some u0) := x0
        have hz := HZ.out
        have v1 := w64 (z + 1) (by omega)
        have v2 := w64 (z + 2) (by omega)
        have e2 : z + 1 + 1 = z + 2 := by omega
        have i0' : (0 : Int) ≤ (i : Int) := by omega
        have i1' : (i : Int) < (ls.length : Int) := by omega
        have HE : Hid (z + 2 = k + 2 * ((i + 1 : Nat) : Int)) := (show z + 2 = k + 2 * ((i + 1 : Nat) : Int) by omega)
        have HFR : Hid (Fr [g] w wr) := hfr
        clear hth t0 t1 hz hfr
        go_wp2
        refine ⟨⟨i + 1, z + 2, by omega, by simp, rfl, HE, (HFR.out.setCell (p := ⟨g, i * 2, none⟩) (by simp) _).setCell (p := ⟨g, i * 2 + 1, none⟩) (by simp) _, ?_, ?_⟩, by simp [intOf]; omega⟩
        · exact World.there_setCells (World.there_setCells HTR.out g (i * 2) [.int .i64 z]) g (i * 2 + 1) [.int .i64 (z + 1)]
        · refine (show ∀ q, q < i + 1 → _ from fun q hq => ?_)
          by_cases hqe : q = i
          · subst hqe
            rw [← HZ.out]
            intro j u hu
            match j, hu with
            | 0, hu =>
              cases hu
              exact (World.cell?_setCell_other _ _ _ _ (by simp)).trans (World.cell?_setCell_same _ _ _ HX0.out)
            | 1, hu =>
              cases hu
              exact World.cell?_setCell_same _ _ _ ((World.cell?_setCell_other _ _ _ _ (by simp)).trans HX1.out)
            | (j + 2), hu => simp at hu
          · exact World.rangeAt_setCells_apart (World.rangeAt_setCells_apart (HQ.out q (by omega)) g (i * 2) [.int .i64 z] (.inr (by simp; omega))) g (i * 2 + 1) [.int .i64 (z + 1)] (.inr (by simp; omega))
      · have hie : i = ls.length := by omega
        subst hie
        have HFR : Hid _ := hfr
        clear hfr
        go_wp2
        go_ret
        refine ⟨by rw [HZ.out]; rfl, HFR.out, .inr ⟨by simpa [pf] using h0, g, c, by simp [pf], by simpa [pf] using hlc, hcm, by simpa [pf] using HTR.out, rfl, fun i hi => ?_⟩⟩
        have hi' : i < ls.length := by simpa [pf] using hi
        have := HQ.out i hi'
        simpa [pf] using this

set_option maxHeartbeats 2000000 in
theorem heldLabelS_any {lv : Value} {n : Nat} {k : Int} {w : World} (h : LRep w lv (pf k n)) (hk0 : 0 ≤ k) (hk1 : k + 2 * n ≤ 33554432) :
    Calls Try.prog 88 #[lv, .int .i64 k] w fun e w' => e = .returned (.int .i64 (k + 2 * n)) ∧ Below w.heap.size w w' := by
  obtain ⟨a, c, rfl, hlc, hcm, hcell⟩ := h
  have hl : (pf k n).length = n := by simp [pf]
  rw [hl] at hlc ⊢
  have HC : Hid (∀ i, i < n → ∃ b off, a = some ⟨b, off, none⟩ ∧ w.cell? ⟨b, off + i * 2, none⟩ = some (.int .i64 (k + 2 * (i : Int))) ∧ w.cell? ⟨b, off + i * 2 + 1, none⟩ = some (.int .i64 (k + 2 * (i : Int) + 1))) := (show ∀ i, i < n → _ by
    intro i hi
    obtain ⟨b, off, ha, h0, h1⟩ := hcell i (by rw [hl]; exact hi)
    exact ⟨b, off, ha, by simpa [pf] using h0, by simpa [pf] using h1⟩)
  clear hcell hl
  go_enter Try.func88, Try.ntmps88
  go_wp2
  go_loopw [1, 5] (fun o j wr => ∃ (i : Nat) (z : Int), i ≤ n ∧ j = .int .i64 i ∧ o = .int .i64 z ∧ Hid (z = k + 2 * (i : Int)) ∧ Below w.heap.size w wr) (fun _ j _ => n - (intOf j).toNat)
  case atStart => exact ⟨0, k, by omega, rfl, rfl, (show k = k + 2 * ((0 : Nat) : Int) by simp), Below.refl _ _⟩
  case round =>
    obtain ⟨i, z, hi, rfl, rfl, HZ, hbr⟩ := hrel
    by_cases hlt : i < n
    · obtain ⟨b, off, rfl, x0, x1⟩ := HC.out i hlt
      replace x0 := cell_later hbr x0
      replace x1 := cell_later hbr x1
      have hz := HZ.out
      rw [← hz] at x0 x1
      have v1 := w64 (z + 1) (by omega)
      have v2 := w64 (z + 2) (by omega)
      have e2 : z + 1 + 1 = z + 2 := by omega
      have i0' : (0 : Int) ≤ (i : Int) := by omega
      have i1' : (i : Int) < (n : Int) := by omega
      have HE : Hid (z + 2 = k + 2 * ((i + 1 : Nat) : Int)) := (show z + 2 = k + 2 * ((i + 1 : Nat) : Int) by omega)
      have HB : Hid (Below w.heap.size w wr) := hbr
      clear hbr hz
      go_wp2
      exact ⟨⟨i + 1, z + 2, by omega, by simp, rfl, HE, HB.out⟩, by simp [intOf]; omega⟩
    · have hie : i = n := by omega
      subst hie
      have HB : Hid (Below w.heap.size w wr) := hbr
      clear hbr
      go_wp2
      go_ret
      exact ⟨by rw [HZ.out]; rfl, HB.out⟩
end Go.Proofs.Ytfmhdjnambnglaa
